/- slices.Insert of a card into a hand held: the library's, walked. -/
import Derived.Test.YtghfplmpfgkmeaaG9
import Derived.Laws.CopyRow
import Derived.Lib.AppendZerosOnto
import Derived.Lib.Overlaps
namespace Go.Proofs.Ytghfplmpfgkmeaa.chance
open Go.RowKit
open cards reg
set_option linter.unusedVariables false

/-- A card put at place i. -/
def insC (l : List Cd) (i : Nat) (x : Cd) : List Cd := l.take i ++ [x] ++ l.drop i
theorem insC_len (l : List Cd) (i : Nat) (x : Cd) : (insC l i x).length = l.length + 1 := by
  unfold insC
  rw [List.length_append, List.length_append, List.length_take, List.length_drop]
  simp only [List.length_cons, List.length_nil]
  omega
theorem flat_app (a b : List Cd) : flat (a ++ b) = flat a ++ flat b := by simp [flat]
theorem insC_flat (l : List Cd) (i : Nat) (x : Cd) : flat (insC l i x) = flat (l.take i) ++ (x.cells ++ flat (l.drop i)) := by
  unfold insC
  rw [flat_app, flat_app, List.append_assoc]
  simp [flat]
/-- Cells are laid over a list, from o on. -/
def over (c : List Value) (o : Nat) (s : List Value) : List Value := c.take o ++ s ++ c.drop (o + s.length)
theorem over_len {c s : List Value} {o : Nat} (h : o + s.length ≤ c.length) : (over c o s).length = c.length := by
  unfold over
  rw [List.length_append, List.length_append, List.length_take, List.length_drop]; omega
theorem over_app (A Z s : List Value) (h : s.length ≤ Z.length) : over (A ++ Z) A.length s = A ++ (s ++ Z.drop s.length) := by
  unfold over
  rw [List.take_left, List.append_assoc, List.drop_append, List.drop_eq_nil_of_le (by omega), List.nil_append, show A.length + s.length - A.length = s.length by omega]
theorem over_two (A E D T x : List Value) (h4 : E.length = x.length) : over (A ++ (E ++ (D ++ T))) A.length x = A ++ (x ++ (D ++ T)) := by
  rw [over_app _ _ _ (by rw [List.length_append]; omega), ← h4, List.drop_left]
/-- With room: the rest moves on, then the card is laid. -/
theorem over_shift (A D T x : List Value) (hx : x.length = 4) (hT : 4 ≤ T.length) : ∃ T', over (over (A ++ (D ++ T)) (A.length + 4) D) A.length x = A ++ (x ++ (D ++ T')) ∧ T'.length + 4 = T.length := by
  obtain ⟨E, hE⟩ : ∃ E, E = (D ++ T).take 4 := ⟨_, rfl⟩
  have hEl : E.length = 4 := by rw [hE, List.length_take, List.length_append]; omega
  have hs : D ++ T = E ++ (D ++ T).drop 4 := by rw [hE, List.take_append_drop]
  have h1 : over (A ++ (D ++ T)) (A.length + 4) D = A ++ (E ++ (D ++ ((D ++ T).drop 4).drop D.length)) := by
    rw [hs]
    have h := over_app (A ++ E) ((D ++ T).drop 4) D (by rw [List.length_drop, List.length_append]; omega)
    rw [List.length_append, hEl, List.append_assoc, List.append_assoc] at h
    rw [h, ← hs]
  refine ⟨((D ++ T).drop 4).drop D.length, ?_, ?_⟩
  · rw [h1]; exact over_two A E D _ x (by rw [hEl, hx])
  · rw [List.length_drop, List.length_drop, List.length_append]; omega
/-- Without room: into a new row. -/
theorem over_new (A Z D x : List Value) (hx : x.length = 4) (hZ : 4 + D.length ≤ Z.length) : ∃ T', over (over (A ++ Z) A.length x) (A.length + 4) D = A ++ (x ++ (D ++ T')) ∧ T'.length + (4 + D.length) = Z.length := by
  refine ⟨(Z.drop 4).drop D.length, ?_, ?_⟩
  · rw [over_app A Z x (by omega), hx]
    have h := over_app (A ++ x) (Z.drop 4) D (by rw [List.length_drop]; omega)
    rw [List.length_append, hx, List.append_assoc, List.append_assoc] at h
    exact h
  · rw [List.length_drop, List.length_drop]; omega

section
variable {P : Program}
theorem run_copy_rowK (w : World) (dT sT ty elem : TypeId) (K g o dLen dCap : Nat) (a : Addr) (sLen sCap : Nat) (cur : Array Value) (t : TypeId) (cs : List Value)
    (hu : P.underlying dT = some (.slice elem)) (hs : (P.info? elem).map (·.size) = some K)
    (hg : w.heap[g]? = some (.cells cur t (0, 0))) (hn : cs.length = Nat.min sLen dLen * K)
    (hsrc : ∀ j v, cs[j]? = some v → w.cell? (a.add j) = some v) (hfit : o + cs.length ≤ cur.size) (h1 : ∀ v ∈ cs, v.oneCell' = true) :
    (Builtin.copy_ #[dT, sT] ty #[.slice (some ⟨g, o, none⟩) dLen dCap, .slice (some a) sLen sCap]).run P w =
      .ok (goInt (Nat.min sLen dLen)) (w.setRow g (over cur.toList o cs).toArray) := by
  have hl := run_loadCells_list (P := P) w a cs hsrc
  have hst := run_storeCells_at P g o t cs 0 cur w hg (by simpa using hfit) h1
  unfold over
  cases hq : P.info? elem with
  | none => simp [hq] at hs
  | some i =>
    have hi : i.size = K := by simpa [hq] using hs
    simp [Builtin.copy_, run_underlying hu, Builtin.lenOf, Builtin.firstCells, sizeOf, typeInfo, hq, hi, ← hn, hl, hst]
end
theorem hold_info : ((Try.prog).info? 32).map (·.size) = some 4 := by kernel_rfl
theorem exec_copyK {a : Act} {o : Oper} {W w' : World} {s x : Operand} {t1 t2 : TypeId} {vs vx v' : Value} (hop : o.op = .call { callee := .builtin .copy, args := #[s, x], argTypes := #[t1, t2] }) (hs : a.eval s = vs) (hx : a.eval x = vx)
    (hrun : (Builtin.copy_ #[t1, t2] o.type #[vs, vx]).run Try.prog W = .ok v' w') : (execOp a.eval o).run Try.prog W = .ok (.value v') w' := by
  simp only [execOp, hop, resolve, invoke, builtin, Sem.run_bind, Sem.run_pure, Result.andThen_ok, List.map_toArray, List.map_cons, List.map_nil, hs, hx, hrun]
theorem list_copy {ops : Array Oper} {rest : List Oper} {o : Oper} {a : Act} {W : World} {Q : Exit → Act → World → Prop} (hgd : o.guard = none) (s x : Operand) (t1 t2 : TypeId) (vs vx v' : Value) (w' : World)
    (hop : o.op = .call { callee := .builtin .copy, args := #[s, x], argTypes := #[t1, t2] }) (hs : a.eval s = vs) (hx : a.eval x = vx)
    (hrun : (Builtin.copy_ #[t1, t2] o.type #[vs, vx]).run Try.prog W = .ok v' w') (h : wpList Try.prog ops Q rest (a.put o.dst v') w') : wpList Try.prog ops Q (o :: rest) a W := by
  refine wpList_plain hgd fun K hK => ?_
  unfold Oper.wp
  rw [exec_copyK hop hs hx hrun]
  exact hK _ _ h
end Go.Proofs.Ytghfplmpfgkmeaa.chance
