/- Pairs of places, by their third cards: lists; appends of a pair; placePairs, thirdAt. -/
import Derived.Test.YtjmlefcmhjodeaaR2
import Derived.Test.YtjmlefcmhjodeaaAt
import Derived.Test.YtjmlefcmhjodeaaAn
import Derived.Test.YtjmlefcmhjodeaaVy
import Derived.Test.YtjmlefcmhjodeaaXj
namespace Go.Proofs.Ytjmlefcmhjodeaa.others
open Go.RowKit
open cards reg
set_option linter.unusedVariables false

theorem OwnA2.past {w w1 : World} {B : Nat} {v u : Value} {l : List A2} (h : OwnA2 w B v l) (hg : w.grownBy w1 u.ownBlock) (ha : Ap u v) : OwnA2 w1 B v l :=
  World.ownsRow.kept h hg (by
    cases hv : v.ownBlock with
    | none => exact .inl rfl
    | some g => exact .inr (fun e => ha g e.symm hv))
theorem OwnA2.off {w w1 : World} {B g : Nat} {v : Value} {l : List A2} (h : OwnA2 w B v l) (hg : w.grownBy w1 (some g)) (hB : g < B) : OwnA2 w1 B v l :=
  World.ownsRow.kept h hg (by
    cases hv : v.ownBlock with
    | none => exact .inl rfl
    | some q => exact .inr (fun e => by injection e with e; have := (World.ownsRow.lt h q hv).1; omega))
/-- One pair appended, in whatever world its block is. -/
theorem append_A2_in {ops : Array Oper} {rest : List Oper} {o : Oper} {a : Act} {Q : Exit → Act → World → Prop} (hgd : o.guard = none) (s x : Operand)
    (ho : o.op = .call { callee := .builtin .append, args := #[s, x], argTypes := #[78, 78] }) (B : Nat) (v : Value) (l : List A2) (q : A2) (W : World) (g : Nat) (hq : W.heap[g]? = some q.obj)
    (hs : a.eval s = v) (hx : a.eval x = .slice (some ⟨g, 0, none⟩) 1 1) (hO : OwnA2 W B v l) (hl : l.length ≤ 1000000000) (hB : B ≤ W.heap.size)
    (h : ∀ v' w', OwnA2 w' B v' (l ++ [q]) → Below B W w' → W.grownBy w' v.ownBlock → (v'.ownBlock = v.ownBlock ∨ v'.ownBlock = some W.heap.size) → wpList Try.prog ops Q rest (a.put o.dst v') w') : wpList Try.prog ops Q (o :: rest) a W := by
  obtain ⟨i, hi, hz, hsz, hb⟩ := info_parts A2.info
  refine wpList_append_own_at (P := Try.prog) W hgd s x 78 ho B 79 i (.agg #[.int .i64 0, .int .i64 0]) 2 16 Try.underlying78 hi hz hsz hb rfl (by decide) v l.length (A2.flat l) hs hO ⟨g, 0, none⟩ 1 1 q.cells hx rfl ?_ ?_ ?_ ?_ ?_ ?_
  · intro j u hu
    have hj : j < 2 := by have := (List.getElem?_eq_some_iff.1 hu).1; simpa [A2.cells] using this
    have hadd : (⟨g, 0, none⟩ : Addr).add j = ⟨g, j, none⟩ := by
      unfold Addr.add; split <;> simp_all
    rw [hadd, cell_of_row _ _ j _ _ _ hq]
    rw [← hu]; simp [A2.cells]
  · intro u hu; simp [A2.cells] at hu; rcases hu with rfl | rfl <;> rfl
  · simp only [maxLen]; omega
  · omega
  · omega
  · intro v' w' h1 h2 _ h4
    refine h v' w' ?_ ((Below.refl _ _).grown h2 hB (fun k hk => (World.ownsRow.lt hO k hk).1)) h2 h4
    unfold OwnA2
    rw [List.length_append]
    have e : A2.flat (l ++ [q]) = A2.flat l ++ q.cells := by simp [A2.flat]
    rw [e]; exact h1

/-- The pairs of places below m whose greater one is m. -/
def pRow (m : Nat) : Nat → List A2
  | 0 => []
  | i + 1 => pRow m i ++ [⟨i, m⟩]
/-- All pairs of places below m. -/
def pAll : Nat → List A2
  | 0 => []
  | m + 1 => pAll m ++ pRow m m
theorem pRow_len (m : Nat) : ∀ i : Nat, (pRow m i).length = i
  | 0 => rfl
  | i + 1 => by simp [pRow, pRow_len m i]
theorem pAll_len : ∀ m : Nat, (pAll m).length ≤ m * m
  | 0 => by simp [pAll]
  | m + 1 => by
    have := pAll_len m
    simp only [pAll, List.length_append, pRow_len, Nat.succ_mul, Nat.mul_succ]
    omega
theorem pRow_mem {m : Nat} {p : A2} : ∀ {i : Nat}, p ∈ pRow m i ↔ ∃ j, j < i ∧ p = ⟨(j : Nat), (m : Nat)⟩
  | 0 => by simp [pRow]
  | i + 1 => by
    rw [pRow, List.mem_append, pRow_mem, List.mem_singleton]
    constructor
    · rintro (⟨j, h, rfl⟩ | rfl)
      · exact ⟨j, by omega, rfl⟩
      · exact ⟨i, by omega, rfl⟩
    · rintro ⟨j, h, rfl⟩
      by_cases e : j = i
      · subst e; exact .inr rfl
      · exact .inl ⟨j, by omega, rfl⟩
theorem pAll_mem {p : A2} : ∀ {m : Nat}, p ∈ pAll m ↔ ∃ i j : Nat, i < j ∧ j < m ∧ p = ⟨(i : Nat), (j : Nat)⟩
  | 0 => by simp [pAll]
  | m + 1 => by
    rw [pAll, List.mem_append, pAll_mem, pRow_mem]
    constructor
    · rintro (⟨i, j, h1, h2, rfl⟩ | ⟨i, h, rfl⟩)
      · exact ⟨i, j, h1, by omega, rfl⟩
      · exact ⟨i, m, h, by omega, rfl⟩
    · rintro ⟨i, j, h1, h2, rfl⟩
      by_cases e : j = m
      · subst e; exact .inr ⟨i, h1, rfl⟩
      · exact .inl ⟨i, j, h1, by omega, rfl⟩
/-- The third card of the cards at a pair of places. -/
def th (l : List Cd) (p : A2) : Cd := match l[p.a.toNat]?, l[p.b.toNat]? with
  | some x, some y => third x y
  | _, _ => zero
theorem th_at {l : List Cd} {i j : Nat} {x y : Cd} (hx : l[i]? = some x) (hy : l[j]? = some y) : th l ⟨(i : Nat), (j : Nat)⟩ = third x y := by
  unfold th
  simp only [Int.toNat_natCast, hx, hy]
theorem th_ok (l : List Cd) (p : A2) : (th l p).ok = true := by
  unfold th
  split
  · exact third_ok _ _
  · rfl
/-- The pairs of a list with a third card. -/
def by3 (l : List Cd) (L : List A2) (c : Cd) : List A2 := L.filter fun p => same (th l p) c
theorem by3_row {l : List Cd} {c y : Cd} {m : Nat} (hs : sorted l) (hok : l.all Cd.ok = true) (hc : c.ok = true) (hy : l[m]? = some y) : ∀ i : Nat, i ≤ m → ((by3 l (pRow m i) c).length : Int) = one (down l c m i)
  | 0, _ => by rw [down_zero]; rfl
  | i + 1, h => by
    have hm := (List.getElem?_eq_some_iff.1 hy).1
    obtain ⟨x, hx⟩ : ∃ x, l[i]? = some x := ⟨_, List.getElem?_eq_getElem (by omega)⟩
    have ih := by3_row hs hok hc hy i (by omega)
    have hd := down_step (c := c) hs hok hc hx hy
    have hne : same x y = false := by
      rw [Bool.eq_false_iff]; intro e
      have e := same_iff.1 e
      have := sorted_lt hs (by omega : i < m) hx hy
      rw [e] at this; omega
    rw [hd, pRow, by3, List.filter_append, List.length_append]
    have e : (List.filter (fun p => same (th l p) c) [⟨(i : Nat), (m : Nat)⟩]).length = (if line x y c = true then 1 else 0) := by
      unfold line
      rw [List.filter_cons, th_at hx hy, hne]
      cases same (third x y) c <;> simp
    rw [e]
    unfold by3 at ih
    rw [Int.natCast_add, ih]
    unfold one
    cases line x y c <;> simp
/-- As many pairs have a card as their third one as the model counts lines of it. -/
theorem by3_len {l : List Cd} {c : Cd} (hs : sorted l) (hok : l.all Cd.ok = true) (hc : c.ok = true) : ((by3 l (pAll l.length) c).length : Int) = thr l c l.length := by
  have key : ∀ m : Nat, m ≤ l.length → ((by3 l (pAll m) c).length : Int) = downs l c m := by
    intro m
    induction m with
    | zero => intro _; rfl
    | succ m ih =>
      intro h
      obtain ⟨y, hy⟩ : ∃ y, l[m]? = some y := ⟨_, List.getElem?_eq_getElem (by omega)⟩
      have h1 := ih (by omega)
      have h2 := by3_row (c := c) hs hok hc hy m (Nat.le_refl _)
      rw [pAll, by3, List.filter_append, List.length_append]
      unfold by3 at h1 h2
      rw [Int.natCast_add, h1, h2]
      rfl
  rw [key _ (Nat.le_refl _), ← upto_downs hs hok hc _ (Nat.le_refl _), upto_all]

set_option maxRecDepth 100000 in
set_option maxHeartbeats 4000000 in
theorem place_pairs (n : Nat) (w : World) (hn : n ≤ 1000) :
    Calls Try.prog 98 #[.int .i64 n] w fun e w' => ∃ u, e = .returned u ∧ OwnA2 w' w.heap.size u (pAll n) ∧ Below w.heap.size w w' := by
  go_enter Try.func98, Try.ntmps98
  go_wp2_with fail
  go_loopw [3, 4, 5, 8] (fun o _ _ j wr => ∃ m : Nat, m ≤ n ∧ j = .int .i64 m ∧ Hid (OwnA2 wr w.heap.size o (pAll m)) ∧ Hid (Below w.heap.size w wr)) (fun _ _ _ j _ => n - (intOf j).toNat)
  case atStart => exact ⟨0, Nat.zero_le _, rfl, OwnA2.empty w w.heap.size (Nat.le_refl _), Lib.hid (by repeat (first | with_reducible exact Below.refl _ _ | with_reducible exact HB.out | with_reducible apply Below.drew | with_reducible apply bdN | with_reducible refine Below.alloc ?_ (by first | exact Nat.le_refl _ | with_reducible exact HB.out.size | omega | (simp; done) | (simp; omega) | (have := HB.out.size; simp at *; omega)) _ | with_reducible refine Below.setCell ?_ (by first | exact Nat.le_refl _ | with_reducible exact HB.out.size | omega | (simp; done) | (simp; omega) | (have := HB.out.size; simp at *; omega)) _))⟩
  case round =>
    obtain ⟨m, hm, rfl, HO, HB⟩ := hrel
    have m0 : (0 : Int) ≤ (m : Int) := by omega
    by_cases hlt : m < n
    · have m1 : (m : Int) < (n : Int) := by omega
      obtain ⟨wo, HWo⟩ : ∃ wo : World, Hid (wo = wr) := ⟨_, rfl⟩
      go_wp2_with fail
      go_loopw [3, 5, 12] (fun o _ i wr => ∃ k : Nat, k ≤ m ∧ i = .int .i64 k ∧ Hid (OwnA2 wr w.heap.size o (pAll m ++ pRow m k)) ∧ Hid (Below w.heap.size w wr)) (fun _ _ i _ => m - (intOf i).toNat)
      case atStart => exact ⟨0, Nat.zero_le _, rfl, by rw [show pRow m 0 = [] from rfl, List.append_nil]; exact HO, HB⟩
      case round =>
        clear HO HB
        obtain ⟨k, hk, rfl, HO, HB⟩ := hrel
        have k0 : (0 : Int) ≤ (k : Int) := by omega
        by_cases hkt : k < m
        · have k1 : (k : Int) < (m : Int) := by omega
          have HLn := Lib.hid (show (pAll m ++ pRow m k).length ≤ 1000000000 by
            have h1 := pAll_len m
            have h2 : m * m ≤ 1000 * 1000 := Nat.mul_le_mul (by omega) (by omega)
            rw [List.length_append, pRow_len]; omega)
          go_wp2_with (at_builtin; refine append_A2 rfl (.tmp 15) (.tmp 19) rfl w.heap.size _ (pAll m ++ pRow m k) ⟨(k : Int), (m : Int)⟩ _ _ rfl rfl rfl HO.out HLn.out HB.out.size ?_; intro v1 w4 hO1 hB1)
          rw [List.append_assoc] at hO1
          go_roundw
          case rel => exact ⟨k + 1, by omega, by go_num, hO1, HB.out.trans hB1⟩
          case measure => simp [intOf]; omega
        · obtain rfl : k = m := by omega
          go_wp2_with fail
          go_roundw
          case rel => exact ⟨k + 1, by omega, by go_num, HO, HB⟩
          case measure => simp [intOf]; omega
    · obtain rfl : m = n := by omega
      go_wp2_with fail
      go_ret
      exact ⟨_, rfl, HO.out, HB.out⟩
end Go.Proofs.Ytjmlefcmhjodeaa.others
