/- A number that is appended, the elder slice kept; what may turn behind a visit. -/
import Derived.Test.YtjanphcfflahkaaAt
namespace Go.Proofs.Ytjanphcfflahkaa.cards
open Go.RowKit
set_option linter.unusedVariables false

set_option maxRecDepth 100000 in
theorem push_keep (W : World) (ty : TypeId) (B : Nat) (v : Value) (l : List Int) (q : Int) (hO : OwnI W B v l) (hl : l.length ≤ 1000000000) (hB : B ≤ W.heap.size) :
    ∃ v' w', (Builtin.append_ #[43, 43] ty #[v, .slice (some ⟨W.heap.size, 0, none⟩) 1 1]).run Try.prog (W.alloc (.cells #[.int .i64 q] 3)) = .ok v' w' ∧ OwnI w' B v' (l ++ [q]) ∧ OwnI w' B v l ∧ Below B W w' ∧ W.grownBy w' v.ownBlock ∧ (v'.ownBlock = v.ownBlock ∨ v'.ownBlock = some (W.heap.size + 1)) := by
  obtain ⟨i, hi, hz, hsz, hb⟩ := info_parts int_info
  have he : (W.alloc (.cells #[.int .i64 q] 3)).heap.size = W.heap.size + 1 := by simp
  have hnews : ∀ j u, [Value.int .i64 q][j]? = some u → (W.alloc (.cells #[.int .i64 q] 3)).cell? ((⟨W.heap.size, 0, none⟩ : Addr).add j) = some u := fun j u hu => by
    have hj : j = 0 := by have := (List.getElem?_eq_some_iff.1 hu).1; simp at this; omega
    subst hj
    rw [show u = .int .i64 q by simpa using hu.symm]
    exact (cell_of_row _ _ 0 _ _ _ (heap_alloc_new W _)).trans rfl
  have h1c : ∀ u ∈ [Value.int .i64 q], u.oneCell' = true := fun u hu => by simp at hu; subst hu; rfl
  obtain ⟨v', w', hr, g1, g2, _, g4⟩ := run_append_own_at (P := Try.prog) (W.alloc (.cells #[.int .i64 q] 3)) B 43 ty 3 i (.int .i64 0) 1 8 Try.underlying43 hi hz hsz hb rfl (by decide) v l.length (ints l) (hO.alloc _) ⟨W.heap.size, 0, none⟩ 1 1 [.int .i64 q] rfl hnews h1c (by simp only [maxLen]; omega) (by omega) (by omega)
  refine ⟨v', w', hr, ?_, ?_, ((Below.refl _ _).alloc hB _).grown g2 (by omega) (fun k hk => (World.ownsRow.lt hO k hk).1), (World.grownBy_alloc W _ _).trans g2, by rw [he] at g4; exact g4⟩
  · unfold OwnI
    rw [List.length_append]
    have e : ints (l ++ [q]) = ints l ++ [.int .i64 q] := by simp [ints]
    rw [e]; exact g1
  · have hA := hO.alloc (.cells #[.int .i64 q] 3)
    obtain ⟨hl0, ⟨rfl, h0⟩ | ⟨gb, cap, cur, rfl, hB', hg', hnc, hcm, hcs, htake⟩⟩ := hA
    · exact ⟨hl0, .inl ⟨rfl, h0⟩⟩
    · by_cases hroom : l.length + 1 ≤ cap
      · have hr2 := run_append_room (P := Try.prog) (W.alloc (.cells #[.int .i64 q] 3)) 43 ty 3 i Try.underlying43 hi gb l.length cap cur hg' ⟨W.heap.size, 0, none⟩ 1 1 [.int .i64 q] (by rw [hsz]; rfl) hnews h1c hroom (by rw [hsz, hcs]; simp; omega)
        rw [hr] at hr2
        injection hr2 with e1 e2
        subst e2
        have hcl : cur.toList.length = cap * 1 := by rw [← hcs]; simp
        refine ⟨hl0, .inr ⟨gb, cap, _, rfl, hB', setRow_heap _ gb cur _ _ _ hg', hnc, hcm, ?_, ?_⟩⟩
        · rw [hsz]; simp [hcs]; omega
        · rw [hsz, ← htake, List.toList_toArray, List.append_assoc, List.take_append_of_le_length (by rw [List.length_take, hcl]; omega), List.take_take, Nat.min_self]
      · have holds : ∀ j u, (ints l)[j]? = some u → (W.alloc (.cells #[.int .i64 q] 3)).cell? ((⟨gb, 0, none⟩ : Addr).add j) = some u := (hO.alloc (.cells #[.int .i64 q] 3)).cells (g := gb) rfl
        have hr2 := run_append_grow (P := Try.prog) (W.alloc (.cells #[.int .i64 q] 3)) 43 ty 3 i (.int .i64 0) Try.underlying43 hi hz ⟨gb, 0, none⟩ l.length cap (ints l) (by rw [hsz, ints_len]; omega) holds ⟨W.heap.size, 0, none⟩ 1 1 [.int .i64 q] (by rw [hsz]; rfl) hnews (by omega) (by omega) (growslice_fits (by omega) (by rw [hb]; omega))
        rw [hr] at hr2
        injection hr2 with e1 e2
        subst e2
        exact (hO.alloc (.cells #[.int .i64 q] 3)).alloc _
theorem append_keep {ops : Array Oper} {rest : List Oper} {o : Oper} {a : Act} {Q : Exit → Act → World → Prop} (hgd : o.guard = none) (s x : Operand)
    (ho : o.op = .call { callee := .builtin .append, args := #[s, x], argTypes := #[43, 43] }) (B : Nat) (v : Value) (l : List Int) (q : Int) (W : World) (g : Nat) (hg : W.heap.size = g)
    (hs : a.eval s = v) (hx : a.eval x = .slice (some ⟨g, 0, none⟩) 1 1) (hO : OwnI W B v l) (hl : l.length ≤ 1000000000) (hB : B ≤ W.heap.size)
    (h : ∀ v' w', OwnI w' B v' (l ++ [q]) → OwnI w' B v l → Below B W w' → W.grownBy w' v.ownBlock → (v'.ownBlock = v.ownBlock ∨ v'.ownBlock = some (W.heap.size + 1)) → wpList Try.prog ops Q rest (a.put o.dst v') w') : wpList Try.prog ops Q (o :: rest) a (W.alloc (.cells #[.int .i64 q] 3)) := by
  subst hg
  refine wpList_plain hgd fun K' hK' => ?_
  obtain ⟨v', w', hrun, g1, g2, g3, g4, g5⟩ := push_keep W o.type B v l q hO hl hB
  unfold Oper.wp
  simp only [execOp, ho, resolve, invoke, builtin, Sem.run_bind, Sem.run_pure, Result.andThen_ok, List.map_toArray, List.map_cons, List.map_nil, hs, hx, hrun]
  exact hK' _ _ (h v' w' g1 g2 g3 g4 g5)

/-- Of the blocks that lay there, only those of which S is true may have turned. -/
structure Turn (S : Nat → Prop) (w w' : World) : Prop where
  os : w'.os = w.os
  tape : w'.tape = w.tape
  output : w'.output = w.output
  size : w.heap.size ≤ w'.heap.size
  block : ∀ j, j < w.heap.size → ¬ S j → w'.heap[j]? = w.heap[j]?
theorem Turn.refl (S : Nat → Prop) (w : World) : Turn S w w := ⟨rfl, rfl, rfl, Nat.le_refl _, fun _ _ _ => rfl⟩
theorem Turn.trans {S : Nat → Prop} {a b c : World} (h : Turn S a b) (k : Turn S b c) : Turn S a c :=
  ⟨k.os.trans h.os, k.tape.trans h.tape, k.output.trans h.output, Nat.le_trans h.size k.size, fun j hj hs => (k.block j (Nat.lt_of_lt_of_le hj h.size) hs).trans (h.block j hj hs)⟩
theorem Turn.weak {S T : Nat → Prop} {a b : World} (h : Turn S a b) (hT : ∀ j, j < a.heap.size → S j → T j) : Turn T a b :=
  ⟨h.os, h.tape, h.output, h.size, fun j hj hs => h.block j hj (fun hS => hs (hT j hj hS))⟩
theorem Turn.of_grown {a b : World} {row : Option Nat} (h : a.grownBy b row) : Turn (fun j => some j = row) a b :=
  ⟨h.os, h.tape, h.output, h.size, fun j hj hs => h.block j hj hs⟩
theorem Turn.of_below {a b : World} (h : Below a.heap.size a b) : Turn (fun _ => False) a b := ⟨h.os, h.tape, h.output, h.size, fun j hj _ => h.block j hj⟩
theorem Turn.below {S : Nat → Prop} {B : Nat} {w a b : World} (hw : Below B w a) (hB : B ≤ a.heap.size) (h : Turn S a b) (hS : ∀ j, S j → B ≤ j) : Below B w b :=
  hw.trans ⟨h.os, h.tape, h.output, by have := h.size; omega, fun j hj => h.block j (by omega) (fun hs => by have := hS j hs; omega)⟩
theorem Turn.ownI {S : Nat → Prop} {a b : World} (h : Turn S a b) {B : Nat} {v : Value} {l : List Int} (hO : OwnI a B v l) (hv : ∀ g, v.ownBlock = some g → ¬ S g) : OwnI b B v l := by
  obtain ⟨hl, h0 | ⟨g, cap, cur, rfl, hB, hg, r⟩⟩ := hO
  · exact ⟨hl, .inl h0⟩
  · exact ⟨hl, .inr ⟨g, cap, cur, rfl, hB, (h.block g (Array.getElem?_eq_some_iff.1 hg).1 (hv g rfl)).trans hg, r⟩⟩
theorem Turn.own {S : Nat → Prop} {a b : World} (h : Turn S a b) {B : Nat} {v : Value} {l : List Cd} (hO : Own a B v l) (hv : ∀ g, v.ownBlock = some g → ¬ S g) : Own b B v l := by
  obtain ⟨hl, h0 | ⟨g, cap, cur, rfl, hB, hg, r⟩⟩ := hO
  · exact ⟨hl, .inl h0⟩
  · exact ⟨hl, .inr ⟨g, cap, cur, rfl, hB, (h.block g (Array.getElem?_eq_some_iff.1 hg).1 (hv g rfl)).trans hg, r⟩⟩
end Go.Proofs.Ytjanphcfflahkaa.cards
