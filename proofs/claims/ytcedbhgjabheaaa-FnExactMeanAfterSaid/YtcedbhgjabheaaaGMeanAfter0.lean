/- Merged texts: G2a, G2b, G2c, G2d, G2e, Av, Pm, G2f, G2g, G2h, G2i, G2j, G2k. -/
import Derived.Test.YtcedbhgjabheaaaG9
import Derived.Laws.CopyRow
import Derived.Lib.AppendZerosOnto
import Derived.Lib.Overlaps
import Derived.Lib.AppendZeros
import Derived.Deep.Cut
import Derived.Test.YtcedbhgjabheaaaG1m
import Derived.Test.YtcedbhgjabheaaaPr
import Derived.Test.YtcedbhgjabheaaaAt
import Derived.Deep.RegionLaw
import Derived.Test.YtcedbhgjabheaaaAn
import Derived.Test.YtcedbhgjabheaaaPw
import Derived.Lib.SliceRun
import Derived.Test.YtcedbhgjabheaaaLs
import Derived.Test.YtcedbhgjabheaaaG6
/- slices.Insert of a card into a hand held: the library's, walked. -/
namespace Go.Proofs.Ytcedbhgjabheaaa.chance
open Go.RowKit
open cards reg
set_option linter.unusedVariables false

/-- A card put at place i. -/
def insC (l : List Cd) (i : Nat) (x : Cd) : List Cd := l.take i ++ [x] ++ l.drop i
theorem insC_len (l : List Cd) (i : Nat) (x : Cd) : (insC l i x).length = l.length + 1 := by
  unfold insC
  rw [List.length_append, List.length_append, List.length_take, List.length_drop]
  simp only [List.length_cons, List.length_nil]
  omega
theorem flat_app (a b : List Cd) : flat (a ++ b) = flat a ++ flat b := by simp [flat]
theorem insC_flat (l : List Cd) (i : Nat) (x : Cd) : flat (insC l i x) = flat (l.take i) ++ (x.cells ++ flat (l.drop i)) := by
  unfold insC
  rw [flat_app, flat_app, List.append_assoc]
  simp [flat]
/-- Cells are laid over a list, from o on. -/
def over (c : List Value) (o : Nat) (s : List Value) : List Value := c.take o ++ s ++ c.drop (o + s.length)
theorem over_len {c s : List Value} {o : Nat} (h : o + s.length ≤ c.length) : (over c o s).length = c.length := by
  unfold over
  rw [List.length_append, List.length_append, List.length_take, List.length_drop]; omega
theorem over_app (A Z s : List Value) (h : s.length ≤ Z.length) : over (A ++ Z) A.length s = A ++ (s ++ Z.drop s.length) := by
  unfold over
  rw [List.take_left, List.append_assoc, List.drop_append, List.drop_eq_nil_of_le (by omega), List.nil_append, show A.length + s.length - A.length = s.length by omega]
theorem over_two (A E D T x : List Value) (h4 : E.length = x.length) : over (A ++ (E ++ (D ++ T))) A.length x = A ++ (x ++ (D ++ T)) := by
  rw [over_app _ _ _ (by rw [List.length_append]; omega), ← h4, List.drop_left]
/-- With room: the rest moves on, then the card is laid. -/
theorem over_shift (A D T x : List Value) (hx : x.length = 4) (hT : 4 ≤ T.length) : ∃ T', over (over (A ++ (D ++ T)) (A.length + 4) D) A.length x = A ++ (x ++ (D ++ T')) ∧ T'.length + 4 = T.length := by
  obtain ⟨E, hE⟩ : ∃ E, E = (D ++ T).take 4 := ⟨_, rfl⟩
  have hEl : E.length = 4 := by rw [hE, List.length_take, List.length_append]; omega
  have hs : D ++ T = E ++ (D ++ T).drop 4 := by rw [hE, List.take_append_drop]
  have h1 : over (A ++ (D ++ T)) (A.length + 4) D = A ++ (E ++ (D ++ ((D ++ T).drop 4).drop D.length)) := by
    rw [hs]
    have h := over_app (A ++ E) ((D ++ T).drop 4) D (by rw [List.length_drop, List.length_append]; omega)
    rw [List.length_append, hEl, List.append_assoc, List.append_assoc] at h
    rw [h, ← hs]
  refine ⟨((D ++ T).drop 4).drop D.length, ?_, ?_⟩
  · rw [h1]; exact over_two A E D _ x (by rw [hEl, hx])
  · rw [List.length_drop, List.length_drop, List.length_append]; omega
/-- Without room: into a new row. -/
theorem over_new (A Z D x : List Value) (hx : x.length = 4) (hZ : 4 + D.length ≤ Z.length) : ∃ T', over (over (A ++ Z) A.length x) (A.length + 4) D = A ++ (x ++ (D ++ T')) ∧ T'.length + (4 + D.length) = Z.length := by
  refine ⟨(Z.drop 4).drop D.length, ?_, ?_⟩
  · rw [over_app A Z x (by omega), hx]
    have h := over_app (A ++ x) (Z.drop 4) D (by rw [List.length_drop]; omega)
    rw [List.length_append, hx, List.append_assoc, List.append_assoc] at h
    exact h
  · rw [List.length_drop, List.length_drop]; omega

section
variable {P : Program}
theorem run_copy_rowK (w : World) (dT sT ty elem : TypeId) (K g o dLen dCap : Nat) (a : Addr) (sLen sCap : Nat) (cur : Array Value) (t : TypeId) (cs : List Value)
    (hu : P.underlying dT = some (.slice elem)) (hs : (P.info? elem).map (·.size) = some K)
    (hg : w.heap[g]? = some (.cells cur t (0, 0))) (hn : cs.length = Nat.min sLen dLen * K)
    (hsrc : ∀ j v, cs[j]? = some v → w.cell? (a.add j) = some v) (hfit : o + cs.length ≤ cur.size) (h1 : ∀ v ∈ cs, v.oneCell' = true) :
    (Builtin.copy_ #[dT, sT] ty #[.slice (some ⟨g, o, none⟩) dLen dCap, .slice (some a) sLen sCap]).run P w =
      .ok (goInt (Nat.min sLen dLen)) (w.setRow g (over cur.toList o cs).toArray) := by
  have hl := run_loadCells_list (P := P) w a cs hsrc
  have hst := run_storeCells_at P g o t cs 0 cur w hg (by simpa using hfit) h1
  unfold over
  cases hq : P.info? elem with
  | none => simp [hq] at hs
  | some i =>
    have hi : i.size = K := by simpa [hq] using hs
    simp [Builtin.copy_, run_underlying hu, Builtin.lenOf, Builtin.firstCells, sizeOf, typeInfo, hq, hi, ← hn, hl, hst]
end
theorem hold_info : ((Try.prog).info? 43).map (·.size) = some 4 := by kernel_rfl
theorem exec_copyK {a : Act} {o : Oper} {W w' : World} {s x : Operand} {t1 t2 : TypeId} {vs vx v' : Value} (hop : o.op = .call { callee := .builtin .copy, args := #[s, x], argTypes := #[t1, t2] }) (hs : a.eval s = vs) (hx : a.eval x = vx)
    (hrun : (Builtin.copy_ #[t1, t2] o.type #[vs, vx]).run Try.prog W = .ok v' w') : (execOp a.eval o).run Try.prog W = .ok (.value v') w' := by
  simp only [execOp, hop, resolve, invoke, builtin, Sem.run_bind, Sem.run_pure, Result.andThen_ok, List.map_toArray, List.map_cons, List.map_nil, hs, hx, hrun]
theorem list_copy {ops : Array Oper} {rest : List Oper} {o : Oper} {a : Act} {W : World} {Q : Exit → Act → World → Prop} (hgd : o.guard = none) (s x : Operand) (t1 t2 : TypeId) (vs vx v' : Value) (w' : World)
    (hop : o.op = .call { callee := .builtin .copy, args := #[s, x], argTypes := #[t1, t2] }) (hs : a.eval s = vs) (hx : a.eval x = vx)
    (hrun : (Builtin.copy_ #[t1, t2] o.type #[vs, vx]).run Try.prog W = .ok v' w') (h : wpList Try.prog ops Q rest (a.put o.dst v') w') : wpList Try.prog ops Q (o :: rest) a W := by
  refine wpList_plain hgd fun K hK => ?_
  unfold Oper.wp
  rw [exec_copyK hop hs hx hrun]
  exact hK _ _ h
end Go.Proofs.Ytcedbhgjabheaaa.chance

/- Appends at the type holder. -/
namespace Go.Proofs.Ytcedbhgjabheaaa.chance
open Go.RowKit
open cards reg
set_option linter.unusedVariables false

theorem append_as (t1 t2 ty : TypeId) (h1 : (Try.prog).underlying t1 = some (.slice 43)) (h2 : (Try.prog).underlying t2 = some (.slice 43)) (p : Option Addr) (n c : Nat) (q : Option Addr) (m d : Nat) (w : World) :
    (Builtin.append_ #[t1, t2] ty #[.slice p n c, .slice q m d]).run Try.prog w = (Builtin.append_ #[22, 22] ty #[.slice p n c, .slice q m d]).run Try.prog w := by
  have hu := Try.underlying22
  simp [Builtin.append_, run_underlying h1, run_underlying h2, run_underlying hu]
theorem und_holder : (Try.prog).underlying 51 = some (.slice 43) := Try.underlying51
end Go.Proofs.Ytcedbhgjabheaaa.chance

/- slices.Insert of a card, at the type holder: at the end, with room, and without. -/
namespace Go.Proofs.Ytcedbhgjabheaaa.chance
open Go.RowKit
open cards reg
set_option linter.unusedVariables false

theorem below_row {w : World} {g : Nat} {B : Nat} (hB : B ≤ g) (cs : Array Value) : Below B w (w.setRow g cs) := ⟨rfl, rfl, rfl, by simp [World.setRow], fun k hk => setRow_other w g k cs (by omega)⟩
theorem exec_addV {u v r : Int} (hr : u + v = r) (h : -1000000 ≤ r ∧ r ≤ 1000000) {a : Act} {o : Oper} {p q : Operand} {s : TypeId} (ho : o.op = .binOp .add 3 p q s) (hp : a.eval p = .int .i64 u) (hq : a.eval q = .int .i64 v) (w : World) :
    (execOp a.eval o).run Try.prog w = .ok (.value (.int .i64 r)) w := by
  subst hr
  unfold execOp
  rw [ho]
  simp only [hp, hq]
  go_simp
  exact IntWalk.i64_in _ (by omega)
theorem exec_tailH {k n b ad cp : Nat} (hk : k ≤ n) (hn : n ≤ cp) (hne : ¬ cp = k) {a : Act} {o : Oper} {p q : Operand} (ho : o.op = .slice 51 p (some q) none none) (hp : a.eval p = .slice (some ⟨b, ad, none⟩) n cp) (hq : a.eval q = .int .i64 k) (w : World) :
    (execOp a.eval o).run Try.prog w = .ok (.value (.slice (some ⟨b, ad + k * 4, none⟩) (n - k) (cp - k))) w := by
  have h0 : (0 : Int) ≤ (k : Int) := by omega
  have h1 : (k : Int) ≤ (n : Int) := by omega
  have h2 : (n : Int) ≤ (cp : Int) := by omega
  unfold execOp
  rw [ho]
  simp only [hp, hq, Option.map]
  go_simp
theorem addrP (b o j : Nat) : (⟨b, o, none⟩ : Addr).add j = ⟨b, o + j, none⟩ := by unfold Addr.add; split <;> simp_all
theorem flat_1c (l : List Cd) : ∀ v ∈ flat l, v.oneCell' = true := by
  intro v hv
  simp only [flat, List.mem_flatMap] at hv
  obtain ⟨x, _, hx⟩ := hv
  simp [Cd.cells] at hx
  rcases hx with rfl | rfl | rfl | rfl <;> rfl
theorem cells_1c (x : Cd) : ∀ v ∈ x.cells, v.oneCell' = true := by
  intro v hv
  simp [Cd.cells] at hv
  rcases hv with rfl | rfl | rfl | rfl <;> rfl
/-- What a slice of cards held is in its block. -/
theorem own_parts {w : World} {B g n cap : Nat} {l : List Cd} (h : Own w B (.slice (some ⟨g, 0, none⟩) n cap) l) (hn : l.length = n) : ∃ cur : Array Value, B ≤ g ∧ w.heap[g]? = some (.cells cur 43 (0, 0)) ∧ n ≤ cap ∧ cap ≤ maxLen ∧ cur.size = cap * 4 ∧ cur.toList.take (n * 4) = flat l := by
  obtain ⟨hl, ⟨e, _⟩ | ⟨g1, cap1, cur1, e1, hB1, hg1, hn1, hc1, hs1, ht1⟩⟩ := h
  · simp at e
  · injection e1 with e1 _ e1c
    injection e1 with e1
    injection e1 with e1
    subst e1; subst e1c
    rw [hn] at hn1 ht1
    exact ⟨cur1, hB1, hg1, hn1, hc1, hs1, ht1⟩
theorem own_of {w : World} {B g n cap : Nat} {l : List Cd} {r : List Value} (hB : B ≤ g) (hg : w.heap[g]? = some (.cells r.toArray 43 (0, 0))) (hn : l.length = n) (hc : n ≤ cap) (hm : cap ≤ maxLen) (hr : r.length = cap * 4) (ht : r.take (n * 4) = flat l) : Own w B (.slice (some ⟨g, 0, none⟩) n cap) l := by
  subst hn
  exact ⟨by rw [flat_len]; omega, .inr ⟨g, cap, _, rfl, hB, hg, hc, hm, by simpa using hr, by simpa using ht⟩⟩

set_option maxRecDepth 100000 in
set_option maxHeartbeats 4000000 in
theorem insert_end (l : List Cd) (x : Cd) (B g n cap gv : Nat) (w : World) (hn : l.length = n) (hl : n ≤ 1000) (hO : Own w B (.slice (some ⟨g, 0, none⟩) n cap) l) (hv : Box w gv x) (hB : B ≤ w.heap.size) :
    Calls Try.prog 96 #[.slice (some ⟨g, 0, none⟩) n cap, .int .i64 n, .slice (some ⟨gv, 0, none⟩) 1 1] w fun e w' => ∃ g' c', e = .returned (.slice (some ⟨g', 0, none⟩) (n + 1) c') ∧ Own w' B (.slice (some ⟨g', 0, none⟩) (n + 1) c') (insC l n x) ∧ Below B w w' := by
  obtain ⟨cur, hBg, hg, hnc, hcm, hcs, htk⟩ := own_parts hO hn
  have hi : insC l n x = l ++ [x] := by
    unfold insC
    rw [List.take_of_length_le (by omega), List.drop_of_length_le (by omega), List.append_nil]
  rw [hi]
  have hrun := fun ty => run_push w ty B n cap g l x gv hn hO hv (by omega) hB
  have h0 : ¬ (1 : Int) = 0 := by omega
  have h1 : (0 : Int) ≤ (n : Int) := by omega
  have h2 : (n : Int) ≤ (cap : Int) := by omega
  have HR := Lib.hid hrun
  have HBg := Lib.hid hBg
  clear hrun hO hv hg hcm hcs htk hn hi hBg
  obtain ⟨g', c', w', hr0, hO1, hc1, hO2, hG, _⟩ := HR.out 51
  have hr := hr0
  rw [← append_as 51 22 _ und_holder Try.underlying22] at hr
  have HO1 := Lib.hid hO1
  have HBw := Lib.hid (show Below B w w' from (Below.refl B w).grown hG (by omega) (fun k hk => by injection hk with hk; have := HBg.out; omega))
  clear hr0 hO1 hO2 hG HR hc1
  go_enter Try.func96, Try.ntmps96
  go_wp2_with (at_builtin; refine Lib.wpList_append_run _ rfl (.tmp 23) (.tmp 24) _ _ rfl _ _ rfl rfl _ _ hr ?_)
  all_goals
    go_ret
    exact ⟨g', c', rfl, HO1.out, HBw.out⟩

set_option maxRecDepth 100000 in
set_option maxHeartbeats 4000000 in
theorem insert_room (l : List Cd) (x : Cd) (B g n cap gv i : Nat) (w : World) (hn : l.length = n) (hl : n ≤ 1000) (hin : i < n) (hroom : n + 1 ≤ cap) (hO : Own w B (.slice (some ⟨g, 0, none⟩) n cap) l) (hv : Box w gv x) (hne : gv ≠ g) :
    Calls Try.prog 96 #[.slice (some ⟨g, 0, none⟩) n cap, .int .i64 i, .slice (some ⟨gv, 0, none⟩) 1 1] w fun e w' => e = .returned (.slice (some ⟨g, 0, none⟩) (n + 1) cap) ∧ Own w' B (.slice (some ⟨g, 0, none⟩) (n + 1) cap) (insC l i x) ∧ Below B w w' := by
  obtain ⟨cur, hBg, hg, hnc, hcm, hcs, htk⟩ := own_parts hO hn
  have hgl : g < w.heap.size := (Array.getElem?_eq_some_iff.1 hg).1
  have hcl : cur.toList.length = cap * 4 := by simpa using hcs
  -- the row, in parts
  have hparts : cur.toList = flat (l.take i) ++ (flat (l.drop i) ++ cur.toList.drop (n * 4)) := by
    rw [← List.append_assoc, ← flat_app, List.take_append_drop, ← htk, List.take_append_drop]
  have hAl : (flat (l.take i)).length = i * 4 := by rw [flat_len, List.length_take]; omega
  have hDl : (flat (l.drop i)).length = (n - i) * 4 := by rw [flat_len, List.length_drop]; omega
  have hTl : (cur.toList.drop (n * 4)).length = (cap - n) * 4 := by rw [List.length_drop, hcl]; omega
  obtain ⟨T', hrow, hT'⟩ := over_shift (flat (l.take i)) (flat (l.drop i)) (cur.toList.drop (n * 4)) x.cells rfl (by rw [hTl]; omega)
  rw [← hparts, hAl] at hrow
  obtain ⟨r1, hr1⟩ : ∃ r1, over cur.toList (i * 4 + 4) (flat (l.drop i)) = r1 := ⟨_, rfl⟩
  have hr1l : r1.length = cap * 4 := by rw [← hr1, over_len (by rw [hDl, hcl]; omega), hcl]
  rw [hr1] at hrow
  obtain ⟨r2, hr2⟩ : ∃ r2, over r1 (i * 4) x.cells = r2 := ⟨_, rfl⟩
  have hr2l : r2.length = cap * 4 := by rw [← hr2, over_len (by rw [hr1l, show x.cells.length = 4 from rfl]; omega), hr1l]
  rw [hr2] at hrow
  have hr2t : r2.take ((n + 1) * 4) = flat (insC l i x) := by
    have hll : (n + 1) * 4 = (flat (l.take i) ++ (x.cells ++ flat (l.drop i))).length := by
      rw [List.length_append, List.length_append, hAl, hDl, show x.cells.length = 4 from rfl]; omega
    rw [hrow, insC_flat, show flat (l.take i) ++ (x.cells ++ (flat (l.drop i) ++ T')) = (flat (l.take i) ++ (x.cells ++ flat (l.drop i))) ++ T' by simp, hll, List.take_left]
  -- the two copies
  have hi1 : Nat.min (n + 1 - i) (n + 1 - (i + 1)) = n - i := by simp only [Nat.min_def]; split <;> omega
  have hcp1 : ∀ (W : World), W.heap[g]? = some (.cells cur 43 (0, 0)) → ∀ ty, (Builtin.copy_ #[51, 51] ty #[.slice (some ⟨g, 0 + (i + 1) * 4, none⟩) (n + 1 - (i + 1)) (cap - (i + 1)), .slice (some ⟨g, 0 + i * 4, none⟩) (n + 1 - i) (cap - i)]).run Try.prog W = .ok (goInt (n - i : Nat)) (W.setRow g r1.toArray) := fun W hW ty => by
    have h := run_copy_rowK (P := Try.prog) W 51 51 ty 43 4 g (0 + (i + 1) * 4) (n + 1 - (i + 1)) (cap - (i + 1)) ⟨g, 0 + i * 4, none⟩ (n + 1 - i) (cap - i) cur 43 (flat (l.drop i)) und_holder hold_info hW (by rw [hi1, hDl])
      (fun j v hj => by
        rw [addrP, cell_of_row W g _ _ _ _ hW]
        have hlt := (List.getElem?_eq_some_iff.1 hj).1
        have h2 : (flat l)[i * 4 + j]? = some v := by
          have h3 : flat l = flat (l.take i) ++ flat (l.drop i) := by rw [← flat_app, List.take_append_drop]
          rw [h3, List.getElem?_append_right (by rw [hAl]; omega), hAl, show i * 4 + j - i * 4 = j by omega]
          exact hj
        rw [← htk, List.getElem?_take_of_lt (by rw [hDl] at hlt; omega)] at h2
        rw [show 0 + i * 4 + j = i * 4 + j by omega]
        simpa using h2) (by rw [hDl, hcs]; omega) (flat_1c _)
    rw [hi1] at h
    rw [h, show 0 + (i + 1) * 4 = i * 4 + 4 by omega, hr1]
  have hi2 : Nat.min 1 (n + 1 - i) = 1 := by simp only [Nat.min_def]; split <;> omega
  have hcp2 : ∀ (W : World), W.heap[g]? = some (.cells r1.toArray 43 (0, 0)) → Box W gv x → ∀ ty, (Builtin.copy_ #[51, 22] ty #[.slice (some ⟨g, 0 + i * 4, none⟩) (n + 1 - i) (cap - i), .slice (some ⟨gv, 0, none⟩) 1 1]).run Try.prog W = .ok (goInt (1 : Nat)) (W.setRow g r2.toArray) := fun W hW hb ty => by
    have h := run_copy_rowK (P := Try.prog) W 51 22 ty 43 4 g (0 + i * 4) (n + 1 - i) (cap - i) ⟨gv, 0, none⟩ 1 1 r1.toArray 43 x.cells und_holder hold_info hW (by rw [hi2]; rfl)
      (fun j v hj => by
        rw [addrP, cell_of_row W gv _ _ _ _ hb, Nat.zero_add]
        simpa [Cd.cells] using hj) (by rw [show x.cells.length = 4 from rfl]; simp; omega) (cells_1c x)
    rw [hi2] at h
    rw [h, List.toList_toArray, Nat.zero_add, hr2]
  have hov : ∀ lb cb, (callFunc 108 #[.slice (some ⟨gv, 0, none⟩) 1 1, .slice (some ⟨g, 0 + (i + 1) * 4, none⟩) lb cb]).run Try.prog w = .ok (.value (.bool false)) w := fun lb cb => by
    have hz : ∀ w : World, (Go.sizeOf 43).run Try.prog w = .ok 4 w := fun w => by
      obtain ⟨i0, hi0, _, hs0, _⟩ := info_parts a4info
      simp [sizeOf, typeInfo, hi0, hs0]
    have hsa : w.shape? gv = some (43, 4) := by
      have h : w.heap[gv]? = some x.obj := hv
      simp [World.shape?, h]
    have hsb : w.shape? g = some (43, cap * 4) := by simp [World.shape?, hg, hcs]
    rw [run_callFunc_extern Try.func108 (by kernel_rfl) (by kernel_rfl) (by kernel_rfl) (e := Extern.SlicesOverlaps.overlaps #[22, 22] #[4]) (by kernel_rfl),
      Lib.run_overlaps_apart w 22 4 43 Try.underlying22 4 hz ⟨gv, 0, none⟩ ⟨g, 0 + (i + 1) * 4, none⟩ 1 1 lb cb hne 43 43 4 (cap * 4) hsa hsb (by omega) (Box.frozen hv 0) (Box.frozen hv 4)]
    rfl
  have HOV := Lib.hid hov
  have HG := Lib.hid hg
  have HGl := Lib.hid hgl
  have HBg := Lib.hid hBg
  have HV := Lib.hid hv
  have H1 := Lib.hid hcp1
  have H2 := Lib.hid hcp2
  have HF : Hid (∀ W : World, W.heap[g]? = some (.cells r2.toArray 43 (0, 0)) → Own W B (.slice (some ⟨g, 0, none⟩) (n + 1) cap) (insC l i x)) := Lib.hid (fun W hW => own_of hBg hW (by rw [insC_len, hn]) hroom hcm hr2l hr2t)
  clear hcp1 hcp2 hparts hAl hDl hTl hrow hT' hr1 hr1l hr2 hr2l hr2t hi1 hi2 hg hgl hBg hcs hcl htk hO hn hv hov
  have h0 : ¬ (1 : Int) = 0 := by omega
  have h1 : (0 : Int) ≤ (i : Int) := by omega
  have h2 : (i : Int) ≤ (n : Int) := by omega
  have h3 : (n : Int) ≤ (cap : Int) := by omega
  have h4 : ¬ (i : Int) = (n : Int) := by omega
  have h5 : ¬ (cap : Int) < (n : Int) + 1 := by omega
  have h6 : ¬ cap = i := by omega
  have h7 : ¬ cap = i + 1 := by omega
  have h8 : (i : Int) + 1 ≤ (n : Int) + 1 := by omega
  have h9 : ((i : Int) + 1).toNat = i + 1 := by omega
  have h10 : ((n : Int) + 1).toNat = n + 1 := by omega
  have h11 : (n : Int) + 1 ≤ (cap : Int) := by omega
  have h12 : (cap : Int) ≤ 9223372036854775807 := by simp only [maxLen] at hcm; omega
  have hov := HOV.out
  simp only [Nat.zero_add] at hov
  go_enter Try.func96, Try.ntmps96
  go_upto_region 15 with (simp only [hov])
  refine region_seq [0, 1, 2, 3, 4, 5, 6, 7] [8] (by kernel_rfl) (by kernel_rfl) rfl (by kernel_rfl) (fun _ => True) (fun _ _ => trivial) ?_
  refine j_pure 69 (v := .slice (some ⟨g, 0, none⟩) (n + 1) cap) rfl rfl rfl (fun w => by kernel_rfl) ?_
  refine j_pure 70 (v := .int .i64 i) rfl rfl rfl (fun w => by kernel_rfl) ?_
  refine j_pure 71 (v := .int .i64 1) rfl rfl rfl (fun w => by kernel_rfl) ?_
  refine j_pure 72 (v := .int .i64 ((i : Int) + 1)) rfl rfl rfl (exec_addV rfl (by omega) rfl (by kernel_rfl) (by kernel_rfl)) ?_
  refine j_pure 73 rfl rfl rfl (exec_tailH (k := i + 1) (n := n + 1) (b := g) (ad := 0) (cp := cap) (by omega) hroom h7 rfl (by kernel_rfl) (by kernel_rfl)) ?_
  refine j_pure 74 (v := .slice (some ⟨g, 0, none⟩) (n + 1) cap) rfl rfl rfl (fun w => by kernel_rfl) ?_
  refine j_pure 75 (v := .int .i64 i) rfl rfl rfl (fun w => by kernel_rfl) ?_
  refine j_pure 76 rfl rfl rfl (exec_tailH (k := i) (n := n + 1) (b := g) (ad := 0) (cp := cap) (by omega) hroom h6 rfl (by kernel_rfl) (by kernel_rfl)) ?_
  intro wa hI
  have hga := (Below.block hI g HGl.out).trans HG.out
  have hva : Box wa gv x := Box.below HV.out hI
  refine u_val (v := goInt (n - i : Nat)) rfl rfl (exec_copyK rfl (by kernel_rfl) (by kernel_rfl) (H1.out wa hga _)) trivial ?_
  simp only [runsU, List.getElem_toArray, List.getElem_cons_succ, List.getElem_cons_zero, Act.put, List.setIfInBounds_toArray, List.set_cons_zero, List.set_cons_succ]
  have hgb : (wa.setRow g r1.toArray).heap[g]? = some (.cells r1.toArray 43 (0, 0)) := setRow_heap _ g cur _ _ _ hga
  have hvb : Box (wa.setRow g r1.toArray) gv x := (setRow_other wa g gv r1.toArray hne).trans hva
  have HBb : Hid (Below B w (wa.setRow g r1.toArray)) := Lib.hid (((Below.refl B w).trans (Below.mono hI (by have := HBg.out; have := HGl.out; omega))).trans (below_row HBg.out _))
  have h3' := H2.out _ hgb hvb
  simp only [Nat.zero_add] at h3'
  have H3 := Lib.hid h3'
  have H4 := Lib.hid hgb
  clear h3'
  clear hga hva hgb hvb hI
  generalize wa.setRow g r1.toArray = wb at *
  go_wp2_with (refine list_copy rfl (.tmp 80) (.tmp 81) 51 22 (.slice (some ⟨g, i * 4, none⟩) (n + 1 - i) (cap - i)) (.slice (some ⟨gv, 0, none⟩) 1 1) _ _ rfl rfl rfl (H3.out _) ?_)
  go_ret
  exact ⟨rfl, HF.out _ (setRow_heap _ g r1.toArray _ _ _ H4.out), HBb.out.trans (below_row HBg.out _)⟩
end Go.Proofs.Ytcedbhgjabheaaa.chance

/- slices.Insert of a card, at the type holder: where there is no room. -/
namespace Go.Proofs.Ytcedbhgjabheaaa.chance
open Go.RowKit
open cards reg
set_option linter.unusedVariables false

set_option maxRecDepth 100000 in
set_option maxHeartbeats 4000000 in
theorem insert_grow (l : List Cd) (x : Cd) (B g n cap gv i : Nat) (w : World) (hn : l.length = n) (hl : n ≤ 1000) (hin : i < n) (hroom : cap < n + 1) (hO : Own w B (.slice (some ⟨g, 0, none⟩) n cap) l) (hv : Box w gv x) (hB : B ≤ w.heap.size) :
    Calls Try.prog 96 #[.slice (some ⟨g, 0, none⟩) n cap, .int .i64 i, .slice (some ⟨gv, 0, none⟩) 1 1] w fun e w' => ∃ g' c', e = .returned (.slice (some ⟨g', 0, none⟩) (n + 1) c') ∧ Own w' B (.slice (some ⟨g', 0, none⟩) (n + 1) c') (insC l i x) ∧ Below B w w' := by
  obtain ⟨cur, hBg, hg, hnc, hcm, hcs, htk⟩ := own_parts hO hn
  have hgl : g < w.heap.size := (Array.getElem?_eq_some_iff.1 hg).1
  obtain rfl : cap = n := by omega
  obtain ⟨i0, hi0, hz0, hsz, hbz⟩ := info_parts a4info
  have hAl : (flat (l.take i)).length = i * 4 := by rw [flat_len, List.length_take]; omega
  have hDl : (flat (l.drop i)).length = (cap - i) * 4 := by rw [flat_len, List.length_drop]; omega
  have hcell : ∀ j v, (flat l)[j]? = some v → w.cell? ⟨g, j, none⟩ = some v := fun j v hj => by
    rw [cell_of_row w g _ _ _ _ hg]
    have hlt := (List.getElem?_eq_some_iff.1 hj).1
    rw [← htk, List.getElem?_take_of_lt (by rw [flat_len] at hlt; omega)] at hj
    simpa using hj
  have hspl : flat l = flat (l.take i) ++ flat (l.drop i) := by rw [← flat_app, List.take_append_drop]
  have hold : (Builtin.firstCells i0.size i (.slice (some ⟨g, 0, none⟩) i cap)).run Try.prog w.drew = .ok (flat (l.take i)).toArray w.drew := by
    rw [hsz]
    exact run_firstCells_some w.drew 4 i ⟨g, 0, none⟩ i cap (flat (l.take i)) (by rw [hAl]) (fun j v hj => by
      rw [addrP, Nat.zero_add]
      exact hcell j v (by rw [hspl, List.getElem?_append_left (List.getElem?_eq_some_iff.1 hj).1]; exact hj))
  obtain ⟨G, hG⟩ : ∃ G, G = grownCap w (cap + 1) cap 43 := ⟨_, rfl⟩
  have hGn : cap + 1 ≤ G := by rw [hG]; exact grownCap_ge w _ _ _
  have hGm : G ≤ maxLen := by rw [hG]; exact grownCap_le_maxLen w _ _ _ (by simp only [maxLen]; omega)
  obtain ⟨Z, hZ⟩ : ∃ Z, Z = (Builtin.zeroCells (Value.agg #[.int .i64 0, .int .i64 0, .int .i64 0, .int .i64 0]).cells (cap + 1 - i) ++ Builtin.zeroCells (Value.agg #[.int .i64 0, .int .i64 0, .int .i64 0, .int .i64 0]).cells (G - (cap + 1))) := ⟨_, rfl⟩
  have hZl : Z.toList.length = (G - i) * 4 := by
    rw [hZ, Array.length_toList, Array.size_append, size_zeroCells, size_zeroCells]
    show (cap + 1 - i) * 4 + (G - (cap + 1)) * 4 = _
    omega
  have hrz : ∀ ty, (Builtin.append_ #[51, 3] ty #[.slice (some ⟨g, 0, none⟩) i cap, .int .i64 ((cap : Int) + 1 - (i : Int))]).run Try.prog w =
      .ok (.slice (some ⟨w.heap.size, 0, none⟩) (cap + 1) G) (w.drew.alloc (.cells ((flat (l.take i)).toArray ++ Z) 43)) := fun ty => by
    have h := Lib.run_append_grow_zeros (P := Try.prog) w 51 3 ty 43 i0 _ .i64 .i64 und_holder Try.underlying3 hi0 hz0 (some ⟨g, 0, none⟩) i cap (flat (l.take i)) hold (cap + 1 - i) (by omega) (by omega) (by omega) (by omega) (by rw [hbz]; omega) (by rw [hbz, show i + (cap + 1 - i) = cap + 1 by omega]; exact growslice_fits (by omega) (by omega))
    rw [show i + (cap + 1 - i) = cap + 1 by omega, ← hG] at h
    rw [show (cap : Int) + 1 - (i : Int) = ((cap + 1 - i : Nat) : Int) by omega, h, hZ, Array.append_assoc]
  obtain ⟨T', hrow, hT'⟩ := over_new (flat (l.take i)) Z.toList (flat (l.drop i)) x.cells rfl (by rw [hDl, hZl]; omega)
  obtain ⟨gN, hgN⟩ : ∃ gN, w.heap.size = gN := ⟨_, rfl⟩
  obtain ⟨r0, hr0⟩ : ∃ r0 : List Value, flat (l.take i) ++ Z.toList = r0 := ⟨_, rfl⟩
  have hr0l : r0.length = G * 4 := by rw [← hr0, List.length_append, hAl, hZl]; omega
  rw [hr0, hAl] at hrow
  obtain ⟨r1, hr1⟩ : ∃ r1, over r0 (i * 4) x.cells = r1 := ⟨_, rfl⟩
  have hr1l : r1.length = G * 4 := by rw [← hr1, over_len (by rw [hr0l, show x.cells.length = 4 from rfl]; omega), hr0l]
  rw [hr1] at hrow
  obtain ⟨r2, hr2⟩ : ∃ r2, over r1 (i * 4 + 4) (flat (l.drop i)) = r2 := ⟨_, rfl⟩
  have hr2l : r2.length = G * 4 := by rw [← hr2, over_len (by rw [hr1l, hDl]; omega), hr1l]
  rw [hr2] at hrow
  have hr2t : r2.take ((cap + 1) * 4) = flat (insC l i x) := by
    have hll : (cap + 1) * 4 = (flat (l.take i) ++ (x.cells ++ flat (l.drop i))).length := by
      rw [List.length_append, List.length_append, hAl, hDl, show x.cells.length = 4 from rfl]; omega
    rw [hrow, insC_flat, show flat (l.take i) ++ (x.cells ++ (flat (l.drop i) ++ T')) = (flat (l.take i) ++ (x.cells ++ flat (l.drop i))) ++ T' by simp, hll, List.take_left]
  have hi2 : Nat.min 1 (cap + 1 - i) = 1 := by simp only [Nat.min_def]; split <;> omega
  have hcp1 : ∀ (W : World), W.heap[gN]? = some (.cells r0.toArray 43 (0, 0)) → Box W gv x → ∀ ty, (Builtin.copy_ #[51, 22] ty #[.slice (some ⟨gN, i * 4, none⟩) (cap + 1 - i) (G - i), .slice (some ⟨gv, 0, none⟩) 1 1]).run Try.prog W = .ok (goInt (1 : Nat)) (W.setRow gN r1.toArray) := fun W hW hb ty => by
    have h := run_copy_rowK (P := Try.prog) W 51 22 ty 43 4 gN (i * 4) (cap + 1 - i) (G - i) ⟨gv, 0, none⟩ 1 1 r0.toArray 43 x.cells und_holder hold_info hW (by rw [hi2]; rfl)
      (fun j v hj => by
        rw [addrP, cell_of_row W gv _ _ _ _ hb, Nat.zero_add]
        simpa [Cd.cells] using hj) (by rw [show x.cells.length = 4 from rfl]; simp; omega) (cells_1c x)
    rw [hi2] at h
    rw [h, List.toList_toArray, hr1]
  have hi1 : Nat.min (cap - i) (cap + 1 - (i + 1)) = cap - i := by simp only [Nat.min_def]; split <;> omega
  have hcp2 : ∀ (W : World), W.heap[gN]? = some (.cells r1.toArray 43 (0, 0)) → W.heap[g]? = some (.cells cur 43 (0, 0)) → ∀ ty, (Builtin.copy_ #[51, 51] ty #[.slice (some ⟨gN, 0 + (i + 1) * 4, none⟩) (cap + 1 - (i + 1)) (G - (i + 1)), .slice (some ⟨g, 0 + i * 4, none⟩) (cap - i) (cap - i)]).run Try.prog W = .ok (goInt (cap - i : Nat)) (W.setRow gN r2.toArray) := fun W hW hW2 ty => by
    have h := run_copy_rowK (P := Try.prog) W 51 51 ty 43 4 gN (0 + (i + 1) * 4) (cap + 1 - (i + 1)) (G - (i + 1)) ⟨g, 0 + i * 4, none⟩ (cap - i) (cap - i) r1.toArray 43 (flat (l.drop i)) und_holder hold_info hW (by rw [hi1, hDl])
      (fun j v hj => by
        rw [addrP, cell_of_row W g _ _ _ _ hW2]
        have h3 := hcell (i * 4 + j) v (by rw [hspl, List.getElem?_append_right (by rw [hAl]; omega), hAl, show i * 4 + j - i * 4 = j by omega]; exact hj)
        rw [cell_of_row w g _ _ _ _ hg] at h3
        rw [show 0 + i * 4 + j = i * 4 + j by omega]
        exact h3) (by rw [hDl]; simp; omega) (flat_1c _)
    rw [hi1] at h
    rw [h, List.toList_toArray, show 0 + (i + 1) * 4 = i * 4 + 4 by omega, hr2]
  have hnew : ∀ (c : World), (c.alloc (.cells ((flat (l.take i)).toArray ++ Z) 43)).heap[c.heap.size]? = some (.cells r0.toArray 43 (0, 0)) := fun c => by
    have h := heap_alloc_new c (.cells ((flat (l.take i)).toArray ++ Z) 43)
    have e : (flat (l.take i)).toArray ++ Z = r0.toArray := by rw [← hr0]; apply Array.toList_inj.1; simp
    rw [h, e]
  have HRz := Lib.hid hrz
  have HNw := Lib.hid hnew
  have HG := Lib.hid hg
  have HGl := Lib.hid hgl
  have HBg := Lib.hid hBg
  have HV := Lib.hid hv
  have H1 := Lib.hid hcp1
  have H2 := Lib.hid hcp2
  have HgN := Lib.hid hgN
  have HF : Hid (∀ W : World, W.heap[gN]? = some (.cells r2.toArray 43 (0, 0)) → Own W B (.slice (some ⟨gN, 0, none⟩) (cap + 1) G) (insC l i x)) := Lib.hid (fun W hW => own_of (by omega) hW (by rw [insC_len, hn]) hGn hGm hr2l hr2t)
  have hB2 := Lib.hid hB
  rw [hgN] at hrz
  clear hcp1 hcp2 hAl hDl hrow hT' hr0 hr0l hr1 hr1l hr2 hr2l hr2t hi1 hi2 hg hgl hBg hcs htk hO hn hv hcell hspl hold hG hZ hZl hnew hi0 hz0 hsz hbz hgN
  have h0 : ¬ (1 : Int) = 0 := by omega
  have h1 : (0 : Int) ≤ (i : Int) := by omega
  have h2 : (i : Int) ≤ (cap : Int) := by omega
  have h4 : ¬ (i : Int) = (cap : Int) := by omega
  have h5 : (cap : Int) < (cap : Int) + 1 := by omega
  have h6 : ¬ cap = i := by omega
  have h7 : ¬ G = i := by omega
  have h8 : (i : Int) ≤ (cap : Int) + 1 := by omega
  have h9 : ((cap : Int) + 1).toNat = cap + 1 := by omega
  have h11 : (cap : Int) + 1 ≤ (G : Int) := by omega
  have h12 : (G : Int) ≤ 9223372036854775807 := by simp only [maxLen] at hGm; omega
  have h13 : ¬ G = i + 1 := by omega
  have h14 : (cap : Int) ≤ 1000 := by omega
  generalize hW1 : w.drew.alloc (.cells ((flat (l.take i)).toArray ++ Z) 43) = W1 at hrz
  have HW1 := Lib.hid hW1
  go_enter Try.func96, Try.ntmps96
  go_upto_region 10 with (at_builtin; refine Lib.wpList_append_run _ rfl (.tmp 34) (.tmp 39) _ _ rfl _ _ rfl rfl _ _ (hrz _) ?_)
  have a0 : W1.heap[gN]? = some (.cells r0.toArray 43 (0, 0)) := by
    have h := HNw.out w.drew
    rw [HW1.out] at h
    rw [← HgN.out]; exact h
  have a1 : W1.heap[g]? = some (.cells cur 43 (0, 0)) := by
    rw [← HW1.out]
    exact (Below.heap_alloc w.drew _ g HGl.out).trans HG.out
  have a2 : Box W1 gv x := by
    rw [← HW1.out]
    exact (Box.drew HV.out).alloc _
  have HB1 : Hid (Below B w W1) := Lib.hid (by
    rw [← HW1.out]
    exact ((Below.refl B w).drew).alloc hB2.out _)
  have HBN := Lib.hid (show B ≤ gN by have := hB2.out; have := HgN.out; omega)
  have HNe := Lib.hid (show g ≠ gN by have := HGl.out; have := HgN.out; omega)
  have HNv := Lib.hid (show gv ≠ gN by have := HV.out.lt; have := HgN.out; omega)
  have h1r := H1.out W1 a0 a2
  have HA0 := Lib.hid a0
  have HA1 := Lib.hid a1
  clear a0 a1 a2 hrz
  go_upto_region 11 with (refine list_copy rfl (.tmp 43) (.tmp 44) 51 22 (.slice (some ⟨gN, i * 4, none⟩) (cap + 1 - i) (G - i)) (.slice (some ⟨gv, 0, none⟩) 1 1) _ _ rfl rfl rfl (h1r _) ?_)
  have b0 : (W1.setRow gN r1.toArray).heap[gN]? = some (.cells r1.toArray 43 (0, 0)) := setRow_heap _ gN r0.toArray _ _ _ HA0.out
  have b1 : (W1.setRow gN r1.toArray).heap[g]? = some (.cells cur 43 (0, 0)) := (setRow_other W1 gN g r1.toArray HNe.out).trans HA1.out
  have HB2 : Hid (Below B w (W1.setRow gN r1.toArray)) := Lib.hid (HB1.out.trans (below_row HBN.out _))
  have HA0 := Lib.hid b0
  have HA1 := Lib.hid b1
  clear b0 b1 h1r HB1
  generalize W1.setRow gN r1.toArray = W2 at *
  refine region_seq [0, 1, 2, 3, 4, 5, 6, 7] [8] (by kernel_rfl) (by kernel_rfl) rfl (by kernel_rfl) (fun _ => True) (fun _ _ => trivial) ?_
  refine j_pure 46 (v := .slice (some ⟨gN, 0, none⟩) (cap + 1) G) rfl rfl rfl (fun w => by kernel_rfl) ?_
  refine j_pure 47 (v := .int .i64 i) rfl rfl rfl (fun w => by kernel_rfl) ?_
  refine j_pure 48 (v := .int .i64 1) rfl rfl rfl (fun w => by kernel_rfl) ?_
  refine j_pure 49 (v := .int .i64 ((i : Int) + 1)) rfl rfl rfl (exec_addV rfl (by omega) rfl (by kernel_rfl) (by kernel_rfl)) ?_
  refine j_pure 50 rfl rfl rfl (exec_tailH (k := i + 1) (n := cap + 1) (b := gN) (ad := 0) (cp := G) (by omega) (by omega) h13 rfl (by kernel_rfl) (by kernel_rfl)) ?_
  refine j_pure 51 (v := .slice (some ⟨g, 0, none⟩) cap cap) rfl rfl rfl (fun w => by kernel_rfl) ?_
  refine j_pure 52 (v := .int .i64 i) rfl rfl rfl (fun w => by kernel_rfl) ?_
  refine j_pure 53 rfl rfl rfl (exec_tailH (k := i) (n := cap) (b := g) (ad := 0) (cp := cap) (by omega) (by omega) h6 rfl (by kernel_rfl) (by kernel_rfl)) ?_
  intro wa hI
  have c0 := (Below.block hI gN ((Array.getElem?_eq_some_iff.1 HA0.out).1)).trans HA0.out
  have c1 := (Below.block hI g ((Array.getElem?_eq_some_iff.1 HA1.out).1)).trans HA1.out
  refine u_val (v := goInt (cap - i : Nat)) rfl rfl (exec_copyK rfl (by kernel_rfl) (by kernel_rfl) (H2.out wa c0 c1 _)) trivial ?_
  simp only [runsU, List.getElem_toArray, List.getElem_cons_succ, List.getElem_cons_zero, Act.put, List.setIfInBounds_toArray, List.set_cons_zero, List.set_cons_succ]
  have HO := Lib.hid (HF.out _ (setRow_heap wa gN r1.toArray r2.toArray _ _ c0))
  have HBz : Hid (Below B w (wa.setRow gN r2.toArray)) := Lib.hid ((HB2.out.trans (Below.mono hI HB2.out.size |> fun h => ⟨h.os, h.tape, h.output, h.size, fun j hj => Below.block hI j (by have h1 := HB2.out.size; have h2 := hB2.out; omega)⟩)).trans (below_row HBN.out _))
  clear c0 c1 hI
  generalize wa.setRow gN r2.toArray = W3 at *
  go_wp2_with fail
  go_ret
  exact ⟨gN, G, rfl, HO.out, HBz.out⟩
end Go.Proofs.Ytcedbhgjabheaaa.chance

/- A hand with cards put to it: mathematics. -/
namespace Go.Proofs.Ytcedbhgjabheaaa.chance
open Go.RowKit
open cards reg
set_option linter.unusedVariables false

theorem behind_ifN {l : List Cd} {t : Cd} {j : Nat} (hs : sorted l) (hok : l.all Cd.ok = true) (ht : t.ok = true) : t ∈ l.drop (j + 1) ↔ there l t = true ∧ j < less l t := by
  rw [mem_drop]
  constructor
  · rintro ⟨k, hk, h⟩
    obtain ⟨h1, h2⟩ := (place_is hs h).1 rfl
    exact ⟨h1, by omega⟩
  · rintro ⟨h1, h2⟩
    obtain ⟨z, hz, hn⟩ := of_decide_eq_true h1
    have e := num_inj (ok_at hok hz) ht hn
    subst e
    exact ⟨_, h2, hz⟩
/-- Do two cards make a line with d? -/
def Mx (d x y : Cd) : Nat := nat (!same x d && same (third d x) y)
def smM (d x : Cd) (l : List Cd) : Nat := (l.map (Mx d x)).sum
def psM (d : Cd) : List Cd → Nat
  | [] => 0
  | x :: r => smM d x r + psM d r
theorem third_third {d x : Cd} (hx : x.ok = true) : third d (third d x) = x := by
  obtain ⟨⟨x1, x2⟩, ⟨x3, x4⟩, ⟨x5, x6⟩, x7, x8⟩ := Cd.bd hx
  obtain ⟨a, b, c, e⟩ := x
  unfold third
  simp only [Cd.mk.injEq] at *
  omega
theorem Mx_iff {d x y : Cd} (hx : x.ok = true) (hy : y.ok = true) (hd : d.ok = true) : (!same x d && same (third d x) y) = (!same y d && same (third d y) x) := by
  have key : ∀ {u v : Cd}, u.ok = true → v.ok = true → (!same u d && same (third d u) v) = true → (!same v d && same (third d v) u) = true := by
    intro u v hu hv h
    simp only [Bool.and_eq_true, Bool.not_eq_true', same_iff] at h ⊢
    obtain ⟨h1, h2⟩ := h
    refine ⟨?_, by rw [← h2]; exact third_third hu⟩
    cases hs : same v d
    · rfl
    · rw [same_iff] at hs
      have h3 := third_third (d := d) hu
      rw [h2, hs] at h3
      have h4 : third d d = d := by
        obtain ⟨⟨x1, x2⟩, ⟨x3, x4⟩, ⟨x5, x6⟩, x7, x8⟩ := Cd.bd hd
        obtain ⟨a, b, c, e⟩ := d
        unfold third
        simp only [Cd.mk.injEq] at *
        omega
      rw [h4] at h3
      rw [← h3, same_iff.2 rfl] at h1
      cases h1
  rw [Bool.eq_iff_iff]
  exact ⟨key hx hy, key hy hx⟩
theorem Mx_comm {d x y : Cd} (hx : x.ok = true) (hy : y.ok = true) (hd : d.ok = true) : Mx d x y = Mx d y x := by unfold Mx; rw [Mx_iff hx hy hd]
theorem smM_app (d x : Cd) (a b : List Cd) : smM d x (a ++ b) = smM d x a + smM d x b := by simp [smM]
/-- One card more among others makes so many lines more. -/
theorem psM_ins {d c : Cd} (hd : d.ok = true) (hc : c.ok = true) : ∀ (a b : List Cd), a.all Cd.ok = true → psM d (a ++ (c :: b)) = psM d (a ++ b) + smM d c (a ++ b)
  | [], b, _ => by simp only [List.nil_append, psM]; omega
  | x :: a, b, h => by
    simp only [List.all_cons, Bool.and_eq_true] at h
    have ih := psM_ins hd hc a b h.2
    have e1 := smM_app d x a (c :: b)
    have e2 := smM_app d x a b
    have e4 := Mx_comm h.1 hc hd
    have c1 : smM d x (c :: b) = Mx d x c + smM d x b := by simp [smM]
    have c2 : smM d c (x :: (a ++ b)) = Mx d c x + smM d c (a ++ b) := by simp [smM]
    simp only [List.cons_append, psM, ih, c2]
    omega
theorem smM_mem {d c : Cd} : ∀ l : List Cd, sorted l → smM d c l = if same c d = false ∧ third d c ∈ l then 1 else 0
  | l, hs => by
    have h := filter_same (third d c) l hs
    have e : ∀ m : List Cd, smM d c m = if same c d = false then (m.filter (fun z => same (third d c) z)).length else 0 := by
      intro m
      induction m with
      | nil => simp [smM]
      | cons x m ih =>
        simp only [smM, List.map_cons, List.sum_cons] at *
        rw [ih, List.filter_cons]
        unfold Mx nat
        cases same c d <;> cases same (third d c) x <;> simp <;> omega
    rw [e, h]
    by_cases h1 : same c d = false <;> by_cases h2 : third d c ∈ l <;> simp [h1, h2]
theorem thr_psM {l : List Cd} {d : Cd} (hs : sorted l) (hok : l.all Cd.ok = true) (hd : d.ok = true) : ∀ (e i : Nat), i + e = l.length → ((psM d (l.drop i) : Nat) : Int) + thr l d i = thr l d l.length
  | 0, i, h => by rw [List.drop_of_length_le (by omega), show i = l.length by omega]; simp [psM]
  | e + 1, i, h => by
    have hx : l[i]? = some (l[i]'(by omega)) := List.getElem?_eq_getElem (by omega)
    obtain ⟨x, hxe⟩ : ∃ x, l[i]'(by omega) = x := ⟨_, rfl⟩
    rw [hxe] at hx
    have ih := thr_psM hs hok hd e (i + 1) (by omega)
    have hd1 : l.drop i = x :: l.drop (i + 1) := by rw [List.drop_eq_getElem_cons (by omega), hxe]
    have hsm := smM_mem (d := d) (c := x) (l.drop (i + 1)) (drop_sorted hs _)
    have hline : one (lineTo l d i l.length) = ((smM d x (l.drop (i + 1)) : Nat) : Int) := by
      rw [hsm, lineTo_all hx]
      have hb := behind_ifN (j := i) (t := third d x) hs hok (third_ok d x)
      by_cases h1 : same x d = false
      · by_cases h2 : third d x ∈ l.drop (i + 1)
        · obtain ⟨h3, h4⟩ := hb.1 h2
          rw [if_pos ⟨h1, h2⟩, h1, h3, decide_eq_true h4]; rfl
        · rw [if_neg (fun hc => h2 hc.2), h1]
          have h5 : (there l (third d x) && decide (i < less l (third d x))) = false := by
            cases h6 : there l (third d x)
            · rfl
            · cases h7 : decide (i < less l (third d x))
              · rfl
              · exact absurd (hb.2 ⟨h6, of_decide_eq_true h7⟩) h2
          rw [Bool.not_false, Bool.true_and, h5]; rfl
      · rw [if_neg (fun hc => h1 hc.1)]
        have h8 : same x d = true := by simpa using h1
        rw [h8]; rfl
    have hts : thr l d (i + 1) = thr l d i + one (lineTo l d i l.length) := rfl
    rw [hts, hline] at ih
    rw [hd1]
    simp only [psM]
    omega
theorem thr_is {l : List Cd} {d : Cd} (hs : sorted l) (hok : l.all Cd.ok = true) (hd : d.ok = true) : thr l d l.length = ((psM d l : Nat) : Int) := by
  have h := thr_psM hs hok hd l.length 0 (by omega)
  rw [List.drop_zero] at h
  have h0 : thr l d 0 = 0 := rfl
  omega
end Go.Proofs.Ytcedbhgjabheaaa.chance

/- Slices of cards of the call's own that are not nil; all cards of another slice are appended, at a step of a region that draws too. -/
namespace Go.Proofs.Ytcedbhgjabheaaa.cards
open Go.RowKit
set_option linter.unusedVariables false

/-- The call owns a slice of these cards, and it is not nil. -/
def OwnN (w : World) (B : Nat) (v : Value) (l : List Cd) : Prop := Own w B v l ∧ v ≠ .slice none 0 0
theorem OwnN.own {w : World} {B : Nat} {v : Value} {l : List Cd} (h : OwnN w B v l) : Own w B v l := h.1
theorem OwnN.below {w w1 : World} {B : Nat} {v : Value} {l : List Cd} (h : OwnN w B v l) (hb : Below w.heap.size w w1) : OwnN w1 B v l := ⟨h.1.below hb, h.2⟩
theorem OwnN.alloc {w : World} {B : Nat} {v : Value} {l : List Cd} (h : OwnN w B v l) (o : Obj) : OwnN (w.alloc o) B v l := ⟨h.1.alloc o, h.2⟩
theorem OwnN.drew {w : World} {B : Nat} {v : Value} {l : List Cd} (h : OwnN w B v l) : OwnN w.drew B v l := h
theorem OwnN.drewN {w : World} {B : Nat} {v : Value} {l : List Cd} (h : OwnN w B v l) (k : Nat) : OwnN (w.drewN k) B v l := h
theorem OwnN.base {w : World} {B B' : Nat} {v : Value} {l : List Cd} (h : OwnN w B v l) (hB : B' ≤ B) : OwnN w B' v l := ⟨h.1.base hB, h.2⟩
theorem OwnN.empty (w : World) (B : Nat) (hB : B ≤ w.heap.size) : OwnN (w.alloc (.cells #[] 43)) B (.slice (some ⟨w.heap.size, 0, none⟩) 0 0) [] := ⟨Own.empty w B hB, by simp⟩
theorem OwnN.form {w : World} {B : Nat} {v : Value} {l : List Cd} (h : OwnN w B v l) : ∃ g c, v = .slice (some ⟨g, 0, none⟩) l.length c ∧ l.length ≤ c ∧ Rd w (some ⟨g, 0, none⟩) (flat l) := by
  obtain ⟨h1, h2⟩ := h
  obtain ⟨p, c, hv, hc, hr, _⟩ := h1.form
  obtain ⟨_, ⟨e, _⟩ | ⟨g, cap, cur, e, _⟩⟩ := h1
  · exact absurd e h2
  · rw [hv] at e
    injection e with e1 e2 e3
    subst e1
    exact ⟨g, c, hv, hc, hr⟩
set_option maxRecDepth 100000 in
theorem run_append_cards (W : World) (ty : TypeId) (B : Nat) (v : Value) (l l2 : List Cd) (p : Option Addr) (m c : Nat) (hO : Own W B v l) (hm : l2.length = m) (hR : Rd W p (flat l2)) (h0 : p = none → c = 0) (hl : l.length + m ≤ 1000000000) (hB : B ≤ W.heap.size) :
    ∃ v' w', (Builtin.append_ #[22, 22] ty #[v, .slice p m c]).run Try.prog W = .ok v' w' ∧ Own w' B v' (l ++ l2) ∧ Below B W w' ∧ W.grownBy w' v.ownBlock ∧ (v ≠ .slice none 0 0 → v' ≠ .slice none 0 0) ∧ (v'.ownBlock = v.ownBlock ∨ v'.ownBlock = some W.heap.size) := by
  obtain ⟨i, hi, hz, hsz, hb⟩ := info_parts a4info
  have hgo : W.grownBy W v.ownBlock := ⟨rfl, rfl, rfl, Nat.le_refl _, fun _ _ _ => rfl⟩
  cases p with
  | none =>
    have hm0 : l2 = [] := by
      cases l2 with
      | nil => rfl
      | cons x r => obtain ⟨b, o, e, _⟩ := hR (by rw [flat_len]; simp); cases e
    subst hm0
    obtain rfl : m = 0 := hm.symm
    obtain rfl := h0 rfl
    exact ⟨v, W, run_append_owned_none (P := Try.prog) (w := W) B 22 ty 43 i 4 Try.underlying22 hi v l.length (flat l) hO, by rw [List.append_nil]; exact hO, Below.refl _ _, hgo, fun h => h, .inl rfl⟩
  | some q =>
    obtain ⟨v', w', hr, g1, g2, g3, g4⟩ := run_append_own_at (P := Try.prog) W B 22 ty 43 i (.agg #[.int .i64 0, .int .i64 0, .int .i64 0, .int .i64 0]) 4 32 Try.underlying22 hi hz hsz hb rfl (by decide) v l.length (flat l) hO q m c (flat l2) (by rw [flat_len, hm]; omega) (fun j u hu => by
        obtain ⟨b, o, e, _, hc⟩ := hR (Nat.lt_of_le_of_lt (Nat.zero_le _) (List.getElem?_eq_some_iff.1 hu).1)
        injection e with e
        subst e
        have hadd : (⟨b, o, none⟩ : Addr).add j = ⟨b, o + j, none⟩ := by unfold Addr.add; split <;> simp_all
        rw [hadd]; exact hc j u hu) (flat_one l2) (by simp only [maxLen]; omega) (by omega) hB
    refine ⟨v', w', hr, ?_, (Below.refl _ _).grown g2 hB (fun k hk => (World.ownsRow.lt hO k hk).1), g2, fun h e => h (g3.1 e).1, g4⟩
    unfold Own
    rw [List.length_append, flat_app, hm]; exact g1
/-- At a step of a region that draws. -/
theorem step_append_cards {ops : Array Oper} {o : Oper} {a : Act} {W : World} {K : Act → World → Prop} {Q : Exit → Act → World → Prop} {E : Prop} (hg : o.guard = none) (s x : Operand)
    (hop : o.op = .call { callee := .builtin .append, args := #[s, x], argTypes := #[22, 22] }) (B : Nat) (v : Value) (l l2 : List Cd) (p : Option Addr) (m c : Nat)
    (hs : a.eval s = v) (hx : a.eval x = .slice p m c) (hO : OwnN W B v l) (hm : l2.length = m) (hR : Rd W p (flat l2)) (h0 : p = none → c = 0) (hl : l.length + m ≤ 1000000000) (hB : B ≤ W.heap.size)
    (hK : ∀ v' w', OwnN w' B v' (l ++ l2) → Below B W w' → W.grownBy w' v.ownBlock → K (a.put o.dst v') w') : if Region.wanted o (yielded ops a.tmps) = true then Oper.wp Try.prog o a W K Q else E := by
  have hw : Region.wanted o (yielded ops a.tmps) = true := by simp [Region.wanted, hg]
  rw [if_pos hw]
  obtain ⟨v', w', hrun, g1, g2, g3, g4, _⟩ := run_append_cards W o.type B v l l2 p m c hO.1 hm hR h0 hl hB
  unfold Oper.wp
  simp only [execOp, hop, resolve, invoke, builtin, Sem.run_bind, Sem.run_pure, Result.andThen_ok, List.map_toArray, List.map_cons, List.map_nil, hs, hx, hrun]
  exact hK v' w' ⟨g1, g4 hO.2⟩ g2 g3
/-- At an operation of a plain region. -/
theorem list_append_cards {ops : Array Oper} {rest : List Oper} {o : Oper} {a : Act} {Q : Exit → Act → World → Prop} (hg : o.guard = none) (s x : Operand)
    (hop : o.op = .call { callee := .builtin .append, args := #[s, x], argTypes := #[22, 22] }) (B : Nat) (v : Value) (l l2 : List Cd) (p : Option Addr) (m c : Nat) (W : World)
    (hs : a.eval s = v) (hx : a.eval x = .slice p m c) (hO : Own W B v l) (hm : l2.length = m) (hR : Rd W p (flat l2)) (h0 : p = none → c = 0) (hl : l.length + m ≤ 1000000000) (hB : B ≤ W.heap.size)
    (hK : ∀ v' w', Own w' B v' (l ++ l2) → (v ≠ .slice none 0 0 → v' ≠ .slice none 0 0) → Below B W w' → W.grownBy w' v.ownBlock → wpList Try.prog ops Q rest (a.put o.dst v') w') : wpList Try.prog ops Q (o :: rest) a W := by
  refine wpList_plain hg fun K' hK' => ?_
  obtain ⟨v', w', hrun, g1, g2, g3, g4, _⟩ := run_append_cards W o.type B v l l2 p m c hO hm hR h0 hl hB
  unfold Oper.wp
  simp only [execOp, hop, resolve, invoke, builtin, Sem.run_bind, Sem.run_pure, Result.andThen_ok, List.map_toArray, List.map_cons, List.map_nil, hs, hx, hrun]
  exact hK' _ _ (hK v' w' g1 g4 g2 g3)
end Go.Proofs.Ytcedbhgjabheaaa.cards

/- A card that is put into a hand; the hand of all cards of a list: what they are. -/
namespace Go.Proofs.Ytcedbhgjabheaaa.cards
open Go.RowKit
set_option linter.unusedVariables false

/-- The hand with one more card, or the same if it is there. -/
def put (l : List Cd) (c : Cd) : List Cd := if there l c = true then l else l.take (less l c) ++ c :: l.drop (less l c)
theorem less_cons (x : Cd) (r : List Cd) (c : Cd) : less (x :: r) c = if num x < num c then less r c + 1 else 0 := by
  unfold less; rw [List.takeWhile_cons]
  by_cases h : num x < num c
  · rw [if_pos (by simpa using h), if_pos h, List.length_cons]
  · rw [if_neg (by simpa using h), if_neg h]; rfl
theorem less_in : ∀ {l : List Cd} {c x : Cd} {i : Nat}, i < less l c → l[i]? = some x → num x < num c
  | [], c, x, i, h, hx => by simp at hx
  | y :: r, c, x, i, h, hx => by
    rw [less_cons] at h
    by_cases hy : num y < num c
    · rw [if_pos hy] at h
      cases i with
      | zero => simp at hx; subst hx; exact hy
      | succ i => exact less_in (l := r) (i := i) (by omega) (by simpa using hx)
    · rw [if_neg hy] at h; omega
theorem less_at : ∀ {l : List Cd} {c x : Cd}, l[less l c]? = some x → ¬ num x < num c
  | [], c, x, hx => by simp at hx
  | y :: r, c, x, hx => by
    rw [less_cons] at hx
    by_cases hy : num y < num c
    · rw [if_pos hy] at hx
      exact less_at (l := r) (by simpa using hx)
    · rw [if_neg hy] at hx
      simp at hx; subst hx; exact hy
theorem less_after {l : List Cd} {c x : Cd} {i : Nat} (hs : sorted l) (h : less l c ≤ i) (hx : l[i]? = some x) : ¬ num x < num c := by
  have hi := (List.getElem?_eq_some_iff.1 hx).1
  have hy : l[less l c]? = some l[less l c] := List.getElem?_eq_getElem (by omega)
  have h1 := less_at hy
  by_cases e : less l c = i
  · subst e; rw [hx] at hy; injection hy with hy; rw [hy]; exact h1
  · have := sorted_lt hs (show less l c < i by omega) hy hx
    omega
theorem there_mem {l : List Cd} {c : Cd} (hs : sorted l) (hok : l.all Cd.ok = true) (hc : c.ok = true) : there l c = true ↔ c ∈ l := by
  constructor
  · intro h
    obtain ⟨x, hx, hn⟩ := of_decide_eq_true h
    have := num_inj (ok_at hok hx) hc hn
    rw [← this]; exact List.mem_of_getElem? hx
  · intro h
    obtain ⟨k, hk⟩ := List.mem_iff_getElem?.1 h
    exact ((place_is (t := c) hs hk).1 rfl).1
theorem put_mem {l : List Cd} {c y : Cd} (hs : sorted l) (hok : l.all Cd.ok = true) (hc : c.ok = true) : y ∈ put l c ↔ y = c ∨ y ∈ l := by
  unfold put
  split
  · rename_i h
    have := (there_mem hs hok hc).1 h
    exact ⟨.inr, fun h => h.elim (fun e => e ▸ this) id⟩
  · rw [List.mem_append, List.mem_cons]
    conv => rhs; rw [← List.take_append_drop (less l c) l, List.mem_append]
    constructor
    · rintro (h | h | h)
      · exact .inr (.inl h)
      · exact .inl h
      · exact .inr (.inr h)
    · rintro (h | h | h)
      · exact .inr (.inl h)
      · exact .inl h
      · exact .inr (.inr h)
theorem put_ok {l : List Cd} {c : Cd} (hs : sorted l) (hok : l.all Cd.ok = true) (hc : c.ok = true) : (put l c).all Cd.ok = true := by
  rw [List.all_eq_true] at hok ⊢
  intro x hx
  rcases (put_mem hs (List.all_eq_true.2 hok) hc).1 hx with rfl | h
  · exact hc
  · exact hok x h
theorem put_sorted {l : List Cd} {c : Cd} (hs : sorted l) (hok : l.all Cd.ok = true) (hc : c.ok = true) : sorted (put l c) := by
  unfold put
  split
  · exact hs
  · rename_i h
    have hlt : ∀ x ∈ l.take (less l c), num x < num c := by
      intro x hx
      obtain ⟨i, hi⟩ := List.mem_iff_getElem?.1 hx
      rw [List.getElem?_take] at hi
      split at hi
      · rename_i h1; exact less_in h1 hi
      · cases hi
    have hgt : ∀ x ∈ l.drop (less l c), num c < num x := by
      intro x hx
      obtain ⟨i, hi⟩ := List.mem_iff_getElem?.1 hx
      rw [List.getElem?_drop] at hi
      have h1 := less_after hs (Nat.le_add_right _ _) hi
      have h2 : num x ≠ num c := fun e => h (by
        have := num_inj (ok_at hok hi) hc e
        subst this
        exact (there_mem hs hok hc).2 (List.mem_of_getElem? hi))
      omega
    unfold sorted at hs ⊢
    rw [List.pairwise_append]
    refine ⟨List.Pairwise.sublist (List.take_sublist _ _) hs, List.pairwise_cons.2 ⟨hgt, List.Pairwise.sublist (List.drop_sublist _ _) hs⟩, ?_⟩
    intro x hx y hy
    rcases List.mem_cons.1 hy with rfl | hy
    · exact hlt x hx
    · have := hlt x hx; have := hgt y hy; omega
/-- Two hands with the same cards are one. -/
theorem sorted_ext : ∀ {a b : List Cd}, sorted a → sorted b → (∀ x, x ∈ a ↔ x ∈ b) → a = b
  | [], [], _, _, _ => rfl
  | [], y :: r, _, _, h => by have := (h y).2 (by simp); cases this
  | x :: r, [], _, _, h => by have := (h x).1 (by simp); cases this
  | x :: r, y :: s, ha, hb, h => by
    obtain ⟨a1, a2⟩ := List.pairwise_cons.1 ha
    obtain ⟨b1, b2⟩ := List.pairwise_cons.1 hb
    have hxy : x = y := by
      rcases List.mem_cons.1 ((h x).1 (by simp)) with e | e
      · exact e
      · rcases List.mem_cons.1 ((h y).2 (by simp)) with e2 | e2
        · exact e2.symm
        · have h1 := b1 x e; have h2 := a1 y e2; omega
    subst hxy
    congr 1
    refine sorted_ext a2 b2 (fun z => ?_)
    constructor
    · intro hz
      have h1 := a1 z hz
      rcases List.mem_cons.1 ((h z).1 (List.mem_cons_of_mem _ hz)) with e | e
      · subst e; omega
      · exact e
    · intro hz
      have h1 := b1 z hz
      rcases List.mem_cons.1 ((h z).2 (List.mem_cons_of_mem _ hz)) with e | e
      · subst e; omega
      · exact e
theorem cdAt_num {n : Int} (h0 : 0 ≤ n) (h1 : n ≤ 80) : num (cdAt n) = n := by
  unfold num cdAt; simp only; omega
theorem num_cdAt {x : Cd} (h : x.ok = true) : cdAt (num x) = x := num_inj (cdAt_ok (num_bd h).1 (num_bd h).2) h (cdAt_num (num_bd h).1 (num_bd h).2)
/-- The cards of which P is true. -/
def cdsOf (P : Cd → Bool) (k : Nat) : List Cd := (nums P k).map cdAt
theorem nums_mem {P : Cd → Bool} {k : Nat} {n : Int} : n ∈ nums P k ↔ 0 ≤ n ∧ n < k ∧ P (cdAt n) = true := by
  unfold nums
  rw [List.mem_map]
  constructor
  · rintro ⟨i, hi, rfl⟩
    rw [List.mem_filter, List.mem_range] at hi
    exact ⟨by omega, by omega, hi.2⟩
  · rintro ⟨h0, h1, h2⟩
    refine ⟨n.toNat, ?_, by omega⟩
    rw [List.mem_filter, List.mem_range]
    have e : ((n.toNat : Nat) : Int) = n := by omega
    exact ⟨by omega, by rw [e]; exact h2⟩
theorem cdsOf_mem {P : Cd → Bool} {x : Cd} : x ∈ cdsOf P 81 ↔ x.ok = true ∧ P x = true := by
  unfold cdsOf
  rw [List.mem_map]
  constructor
  · rintro ⟨n, hn, rfl⟩
    obtain ⟨h0, h1, h2⟩ := nums_mem.1 hn
    exact ⟨cdAt_ok h0 (by omega), h2⟩
  · rintro ⟨h1, h2⟩
    refine ⟨num x, nums_mem.2 ⟨(num_bd h1).1, by have := (num_bd h1).2; omega, by rw [num_cdAt h1]; exact h2⟩, num_cdAt h1⟩
theorem nums_rise (P : Cd → Bool) : ∀ k : Nat, (nums P k).Pairwise (· < ·)
  | 0 => by simp [nums_zero]
  | k + 1 => by
    have ih := nums_rise P k
    cases h : P (cdAt (k : Int))
    · rw [nums_no h]; exact ih
    · rw [nums_yes h, List.pairwise_append]
      refine ⟨ih, by simp, ?_⟩
      intro a ha b hb
      have := (nums_mem.1 ha).2.1
      simp at hb; omega
theorem cdsOf_sorted (P : Cd → Bool) : sorted (cdsOf P 81) := by
  unfold sorted cdsOf
  rw [List.pairwise_map]
  refine List.Pairwise.imp_of_mem ?_ (nums_rise P 81)
  intro a b ha hb h
  obtain ⟨a0, a1, _⟩ := nums_mem.1 ha
  obtain ⟨b0, b1, _⟩ := nums_mem.1 hb
  rw [cdAt_num a0 (by omega), cdAt_num b0 (by omega)]; exact h
theorem cdsOf_yes {P : Cd → Bool} {k : Nat} (h : P (cdAt (k : Int)) = true) : cdsOf P (k + 1) = cdsOf P k ++ [cdAt (k : Int)] := by
  unfold cdsOf; rw [nums_yes h, List.map_append]; rfl
theorem cdsOf_no {P : Cd → Bool} {k : Nat} (h : P (cdAt (k : Int)) = false) : cdsOf P (k + 1) = cdsOf P k := by
  unfold cdsOf; rw [nums_no h]
theorem cdsOf_len (P : Cd → Bool) (k : Nat) : (cdsOf P k).length ≤ k := by
  unfold cdsOf; rw [List.length_map]; exact nums_len P k
/-- All cards of a list, put one after the other. -/
def allPut (l : List Cd) : List Cd := l.foldl put []
theorem allPut_snoc {l : List Cd} {k : Nat} {x : Cd} (hx : l[k]? = some x) : allPut (l.take (k + 1)) = put (allPut (l.take k)) x := by
  rw [take_snoc hx]; simp [allPut, List.foldl_append]
def isIn (l : List Cd) (x : Cd) : Bool := decide (∃ y ∈ l, num y = num x)
theorem isIn_iff {l : List Cd} {x : Cd} (hok : l.all Cd.ok = true) (hx : x.ok = true) : isIn l x = true ↔ x ∈ l := by
  unfold isIn
  rw [decide_eq_true_eq]
  constructor
  · rintro ⟨y, hy, e⟩
    have := num_inj (List.all_eq_true.1 hok y hy) hx e
    rw [← this]; exact hy
  · intro h; exact ⟨x, h, rfl⟩
theorem fold_put : ∀ (l m : List Cd), l.all Cd.ok = true → sorted m → m.all Cd.ok = true → sorted (l.foldl put m) ∧ (l.foldl put m).all Cd.ok = true ∧ ∀ x, x ∈ l.foldl put m ↔ x ∈ m ∨ x ∈ l
  | [], m, _, hs, hok => ⟨hs, hok, fun x => by simp⟩
  | y :: r, m, h, hs, hok => by
    rw [List.all_cons, Bool.and_eq_true] at h
    obtain ⟨h1, h2, h3⟩ := fold_put r (put m y) h.2 (put_sorted hs hok h.1) (put_ok hs hok h.1)
    refine ⟨h1, h2, fun x => ?_⟩
    rw [List.foldl_cons, h3, put_mem hs hok h.1, List.mem_cons]
    constructor
    · rintro ((h | h) | h)
      · exact .inr (.inl h)
      · exact .inl h
      · exact .inr (.inr h)
    · rintro (h | h | h)
      · exact .inl (.inr h)
      · exact .inl (.inl h)
      · exact .inr h
theorem allPut_is {l : List Cd} (hok : l.all Cd.ok = true) : sorted (allPut l) ∧ (allPut l).all Cd.ok = true ∧ ∀ x, x ∈ allPut l ↔ x ∈ l := by
  obtain ⟨h1, h2, h3⟩ := fold_put l [] hok List.Pairwise.nil rfl
  exact ⟨h1, h2, fun x => by rw [allPut, h3]; simp⟩
theorem allPut_cds {l : List Cd} (hok : l.all Cd.ok = true) : allPut l = cdsOf (isIn l) 81 := by
  obtain ⟨h1, h2, h3⟩ := allPut_is hok
  refine sorted_ext h1 (cdsOf_sorted _) (fun x => ?_)
  rw [h3, cdsOf_mem]
  constructor
  · intro h
    have hx := List.all_eq_true.1 hok x h
    exact ⟨hx, (isIn_iff hok hx).2 h⟩
  · rintro ⟨hx, h⟩; exact (isIn_iff hok hx).1 h
/-- A hand of cards has at most 81. -/
theorem sorted_81 {l : List Cd} (hs : sorted l) (hok : l.all Cd.ok = true) : l.length ≤ 81 := by
  have e : l = cdsOf (isIn l) 81 := by
    refine sorted_ext hs (cdsOf_sorted _) (fun x => ?_)
    rw [cdsOf_mem]
    constructor
    · intro h
      have hx := List.all_eq_true.1 hok x h
      exact ⟨hx, (isIn_iff hok hx).2 h⟩
    · rintro ⟨hx, h⟩; exact (isIn_iff hok hx).1 h
  rw [e]; exact cdsOf_len _ _
end Go.Proofs.Ytcedbhgjabheaaa.cards

/- The lines that drawn cards make: the program's newLines. -/
namespace Go.Proofs.Ytcedbhgjabheaaa.chance
open Go.RowKit
open cards reg
set_option linter.unusedVariables false

theorem insert_cd (l : List Cd) (x : Cd) (B g n cap gv i : Nat) (w : World) (hn : l.length = n) (hl : n ≤ 1000) (hin : i ≤ n) (hO : Own w B (.slice (some ⟨g, 0, none⟩) n cap) l) (hv : Box w gv x) (hne : gv ≠ g) (hB : B ≤ w.heap.size) :
    Calls Try.prog 96 #[.slice (some ⟨g, 0, none⟩) n cap, .int .i64 i, .slice (some ⟨gv, 0, none⟩) 1 1] w fun e w' => ∃ g' c', e = .returned (.slice (some ⟨g', 0, none⟩) (n + 1) c') ∧ Own w' B (.slice (some ⟨g', 0, none⟩) (n + 1) c') (insC l i x) ∧ Below B w w' := by
  by_cases h : i = n
  · subst h
    exact insert_end l x B g i cap gv w hn hl hO hv hB
  · by_cases hr : n + 1 ≤ cap
    · exact (insert_room l x B g n cap gv i w hn hl (by omega) hr hO hv hne).mono (fun e w' h => ⟨g, cap, h⟩)
    · exact insert_grow l x B g n cap gv i w hn hl (by omega) (by omega) hO hv hB

set_option maxRecDepth 100000 in
set_option maxHeartbeats 2000000 in
theorem clone_h (l : List Cd) (b o n c : Nat) (w : World) (hn : l.length = n) (hl : n ≤ 1000000) (hr : Rd w (some ⟨b, o, none⟩) (flat l)) :
    Calls Try.prog 95 #[.slice (some ⟨b, o, none⟩) n c] w fun e w' => ∃ g c', e = .returned (.slice (some ⟨g, 0, none⟩) n c') ∧ Own w' w.heap.size (.slice (some ⟨g, 0, none⟩) n c') l ∧ Below w.heap.size w w' := by
  have HN := Lib.hid hn
  have HO := Lib.hid (Own.empty w w.heap.size (Nat.le_refl _))
  have HB0 : Hid (Below w.heap.size w (w.alloc (.cells #[] 43))) := Lib.hid ((Below.refl _ _).alloc (Nat.le_refl _) _)
  have q51 : ∀ (w : World) (a : Option Addr) (n c n' c' : Nat), (binOp .eql 51 (.slice a n c) (.slice none n' c')).run Try.prog w = .ok (.bool a.isNone) w := fun w a n c n' c' => Lib.run_eql_slice_nil w _ _ a n c n' c' und_holder
  have hrun := run_append_cards (w.alloc (.cells #[] 43)) 51 w.heap.size (.slice (some ⟨w.heap.size, 0, none⟩) 0 0) [] l (some ⟨b, o, none⟩) n c HO.out hn (hr.alloc _) (by intro h; cases h) (by simp; omega) HB0.out.size
  obtain ⟨v', w', hr0, hO1, hB1, _, hne, _⟩ := hrun
  rw [List.nil_append] at hO1
  rw [← append_as 51 51 _ und_holder und_holder] at hr0
  have hform : ∃ g c', v' = .slice (some ⟨g, 0, none⟩) n c' := by
    have hv := hne (by intro h; cases h)
    obtain ⟨h1, ⟨e, _⟩ | ⟨g1, cap1, cur1, e1, _⟩⟩ := hO1
    · exact absurd e hv
    · exact ⟨g1, cap1, by rw [e1, hn]⟩
  obtain ⟨g, c', rfl⟩ := hform
  have HO1 := Lib.hid hO1
  have HB1 := Lib.hid (HB0.out.trans hB1)
  clear hn hr hO1 hB1 hne
  go_enter Try.func95, Try.ntmps95
  go_wp2_with (at_builtin; refine Lib.wpList_append_run _ rfl (.tmp 5) (.tmp 6) _ _ rfl _ _ rfl rfl _ _ hr0 ?_)
  go_ret
  exact ⟨g, c', rfl, HO1.out, HB1.out⟩

/-- A hand with cards put to it, and the lines that they make. -/
def stp (s : List Cd × Nat) (c : Cd) : List Cd × Nat := (put s.1 c, s.2 + psM c s.1)
def st (l ps : List Cd) : List Cd × Nat := ps.foldl stp (l, 0)
theorem st_snoc (l ps : List Cd) (c : Cd) : st l (ps ++ [c]) = stp (st l ps) c := by simp [st]
theorem take_sn {l : List Cd} {k : Nat} {x : Cd} (hx : l[k]? = some x) : l.take (k + 1) = l.take k ++ [x] := by
  rw [List.take_add_one, hx]; rfl
/-- What a hand with the first k cards of these put to it is. -/
theorem st_good {l ps : List Cd} (hs : sorted l) (hok : l.all Cd.ok = true) (hps : ps.all Cd.ok = true) (hnd : ps.Nodup) (hni : ∀ c ∈ ps, c ∉ l) : ∀ k : Nat, k ≤ ps.length →
    sorted (st l (ps.take k)).1 ∧ (st l (ps.take k)).1.all Cd.ok = true ∧ (∀ y, y ∈ (st l (ps.take k)).1 ↔ y ∈ l ∨ y ∈ ps.take k) ∧ (st l (ps.take k)).1.length = l.length + k
  | 0, _ => ⟨by rw [List.take_zero]; exact hs, by rw [List.take_zero]; exact hok, fun y => by rw [List.take_zero]; simp [st], by rw [List.take_zero]; simp [st]⟩
  | k + 1, h => by
    obtain ⟨h1, h2, h3, h4⟩ := st_good hs hok hps hnd hni k (by omega)
    have hx : ps[k]? = some (ps[k]'(by omega)) := List.getElem?_eq_getElem (by omega)
    obtain ⟨x, hxe⟩ : ∃ x, ps[k]'(by omega) = x := ⟨_, rfl⟩
    rw [hxe] at hx
    have hxo := ok_at hps hx
    have hxm : x ∉ (st l (ps.take k)).1 := fun hm => by
      rcases (h3 x).1 hm with hm | hm
      · exact hni x (List.mem_of_getElem? hx) hm
      · obtain ⟨j, hj⟩ := List.mem_iff_getElem?.1 hm
        rw [List.getElem?_take] at hj
        split at hj
        · rename_i hjk
          obtain ⟨hj1, hj2⟩ := List.getElem?_eq_some_iff.1 hj
          have := (List.nodup_iff_pairwise_ne.1 hnd)
          exact (List.pairwise_iff_getElem.1 this j k hj1 (by omega) hjk) (by rw [hj2, hxe])
        · cases hj
    have hth : there (st l (ps.take k)).1 x = false := by
      cases ht : there (st l (ps.take k)).1 x
      · rfl
      · exact absurd ((there_iff h1 h2 hxo).1 ht) hxm
    rw [take_sn hx, st_snoc]
    refine ⟨put_sorted h1 h2 hxo, put_ok h1 h2 hxo, fun y => ?_, ?_⟩
    · show y ∈ put _ x ↔ _
      rw [put_mem h1 h2 hxo, h3]
      simp only [List.mem_append, List.mem_singleton]
      constructor
      · rintro (h | h | h)
        · exact .inr (.inr h)
        · exact .inl h
        · exact .inr (.inl h)
      · rintro (h | h | h)
        · exact .inr (.inl h)
        · exact .inr (.inr h)
        · exact .inl h
    · show (put _ x).length = _
      unfold put
      rw [hth]
      simp only [Bool.false_eq_true, if_false, List.length_append, List.length_cons, List.length_take, List.length_drop]
      omega
end Go.Proofs.Ytcedbhgjabheaaa.chance

/- The lines that drawn cards make: the program's newLines, walked. -/
namespace Go.Proofs.Ytcedbhgjabheaaa.chance
open Go.RowKit
open cards reg
set_option linter.unusedVariables false

theorem put_is {l : List Cd} {c : Cd} (h : there l c = false) : put l c = insC l (less l c) c := by
  unfold put insC
  rw [h]
  simp
theorem there_new {l ps : List Cd} (hs : sorted l) (hok : l.all Cd.ok = true) (hps : ps.all Cd.ok = true) (hnd : ps.Nodup) (hni : ∀ c ∈ ps, c ∉ l) {k : Nat} {x : Cd} (hx : ps[k]? = some x) : there (st l (ps.take k)).1 x = false := by
  have hk := (List.getElem?_eq_some_iff.1 hx).1
  obtain ⟨h1, h2, h3, h4⟩ := st_good hs hok hps hnd hni k (by omega)
  obtain ⟨_, _, _, h5⟩ := st_good hs hok hps hnd hni (k + 1) hk
  rw [take_sn hx, st_snoc] at h5
  cases ht : there (st l (ps.take k)).1 x
  · rfl
  · have e : (stp (st l (ps.take k)) x).1 = (st l (ps.take k)).1 := by show put _ x = _; unfold put; rw [ht]; rfl
    rw [e, h4] at h5
    omega
theorem less_len (l : List Cd) (c : Cd) : less l c ≤ l.length := (List.takeWhile_sublist _).length_le
theorem psM_le {l : List Cd} {d : Cd} (hs : sorted l) (hok : l.all Cd.ok = true) (hd : d.ok = true) : psM d l ≤ l.length := by
  have h := thr_is hs hok hd
  have h2 := (thr_bd l d l.length).2
  omega

set_option maxRecDepth 100000 in
set_option maxHeartbeats 4000000 in
theorem new_lines (l ps : List Cd) (b0 o0 n c g m cp : Nat) (w : World) (hn : l.length = n) (hl : n ≤ 27) (hr : Rd w (some ⟨b0, o0, none⟩) (flat l)) (hok : l.all Cd.ok = true) (hs : sorted l) (hm : ps.length = m) (hml : m ≤ 2) (hrp : Rd w (some ⟨g, 0, none⟩) (flat ps)) (hps : ps.all Cd.ok = true) (hnd : ps.Nodup) (hni : ∀ c ∈ ps, c ∉ l) :
    Calls Try.prog 62 #[.slice (some ⟨b0, o0, none⟩) n c, .slice (some ⟨g, 0, none⟩) m cp] w fun e w' => e = .returned (.int .i64 ((st l ps).2 : Nat)) ∧ Below w.heap.size w w' := by
  have HN := Lib.hid hn
  have HR := Lib.hid hr
  have HR0 := Lib.hid hrp
  have HM := Lib.hid hm
  have HP := Lib.hid hps
  have HGd := Lib.hid (fun k (hk : k ≤ m) => st_good hs hok hps hnd hni k (by rw [hm]; exact hk))
  have HTh := Lib.hid (fun k x (hx : ps[k]? = some x) => there_new (k := k) (x := x) hs hok hps hnd hni hx)
  clear hn hr hok hs hm hrp hps hnd hni
  go_enter Try.func62, Try.ntmps62
  go_wp2_with fail
  refine (clone_h l b0 o0 n c w HN.out (by omega) HR.out).mono ?_
  rintro e w1 ⟨gc, cc, rfl, hO1, hB1⟩
  have HO := Lib.hid hO1
  have HB := Lib.hid hB1
  clear hO1 hB1 HR
  go_wp2_with fail
  go_loopw [5, 6, 15] (fun s v i wr => ∃ (k gh ch : Nat) (S : Int), k ≤ m ∧ i = .int .i64 k ∧ s = .int .i64 S ∧ v = .slice (some ⟨gh, 0, none⟩) (n + k) ch ∧ 0 ≤ S ∧ S ≤ 100 * k ∧ Hid (S = ((st l (ps.take k)).2 : Nat)) ∧ Hid (Own wr w.heap.size (.slice (some ⟨gh, 0, none⟩) (n + k) ch) (st l (ps.take k)).1) ∧ Hid (Below w.heap.size w wr)) (fun _ _ i _ => m - (intOf i).toNat)
  case atStart => exact ⟨0, gc, cc, 0, Nat.zero_le _, rfl, rfl, rfl, by omega, by omega, Lib.hid rfl, HO, HB⟩
  case round =>
    clear HO HB
    obtain ⟨k, gh, ch, S, hk, rfl, rfl, rfl, s0, s1, HS, HO, HB⟩ := hrel
    by_cases hlt : k < m
    · have HRp := Lib.hid (HR0.out.below HB.out)
      obtain ⟨b, o, x, he, hb, hx, c0, c1, c2, c3⟩ := HRp.out.card (k := k) (by rw [HM.out]; exact hlt)
      injection he with he
      injection he with e1 e2
      subst e1; subst e2
      simp only [Nat.zero_add] at c0 c1 c2 c3
      have m0 : (0 : Int) ≤ (k : Int) := by omega
      have m1 : (k : Int) < (m : Int) := by omega
      obtain ⟨q1, q2, q3, q4⟩ := HGd.out k hk
      have hxo := ok_at HP.out hx
      have hth := HTh.out k x hx
      have hlen : (st l (ps.take k)).1.length = n + k := by rw [q4, HN.out]
      have hpl := prs_len (st l (ps.take k)).1 x (n + k)
      have hti := thr_is q1 q2 hxo
      have hpb := psM_le q1 q2 hxo
      have hll := less_len (st l (ps.take k)).1 x
      have hsn : st l (ps.take (k + 1)) = (insC (st l (ps.take k)).1 (less (st l (ps.take k)).1 x) x, (st l (ps.take k)).2 + psM x (st l (ps.take k)).1) := by
        rw [take_sn hx, st_snoc]
        show (put _ x, _) = _
        rw [put_is hth]
      rw [hlen] at hti hpb hll
      have hS := HS.out
      have HSn := Lib.hid hsn
      have HPW := Lib.hid (fun w' hr => pairs_with (st l (ps.take k)).1 x (some ⟨gh, 0, none⟩) (n + k) ch w' hlen (by omega) hr q2 hxo q1)
      have HPI := fun w' hr => place_in (st l (ps.take k)).1 x (some ⟨gh, 0, none⟩) (n + k) ch w' hlen (by omega) hr q2 hxo q1
      rw [hth] at HPI
      have HPI := Lib.hid HPI
      have HIn := Lib.hid (fun w' gv hO hv hne hB => insert_cd (st l (ps.take k)).1 x w.heap.size gh (n + k) ch gv (less (st l (ps.take k)).1 x) w' hlen (by omega) hll hO hv hne hB)
      obtain ⟨z, hz⟩ : ∃ z : Nat, (prs (st l (ps.take k)).1 x (n + k)).length = z := ⟨_, rfl⟩
      have HZ := Lib.hid hz
      rw [hz] at hpl
      have hzp : (z : Int) = (psM x (st l (ps.take k)).1 : Nat) := by omega
      have HSS : Hid (S + (z : Int) = ((st l (ps.take (k + 1))).2 : Nat)) := Lib.hid (by
        rw [HSn.out]
        show S + (z : Int) = (((st l (ps.take k)).2 + psM x (st l (ps.take k)).1 : Nat) : Int)
        omega)
      have hz1 : (z : Int) ≤ 29 := by omega
      have HIe : Hid ((st l (ps.take (k + 1))).1 = insC (st l (ps.take k)).1 (less (st l (ps.take k)).1 x) x) := Lib.hid (by rw [HSn.out])
      generalize less (st l (ps.take k)).1 x = li at *
      clear q1 q2 q3 q4 hxo hth hlen hpl hti hpb hsn hS hz hzp hx HS
      go_wp2_with fail
      refine ((HPW.out _ ((Own.rd HO.out).alloc _))).mono ?_
      rintro e w4 ⟨u4, rfl, o4, b⟩
      have Sw4 := Lib.hid b.size
      have HB := Lib.hid (chain0 (w := w) (by repeat (first | with_reducible exact Below.refl _ _ | with_reducible exact HB.out | with_reducible apply Below.drew | with_reducible apply bdN | with_reducible refine Below.alloc ?_ (by first | exact Nat.le_refl _ | with_reducible exact HB.out.size | omega | (simp; done) | (simp; omega) | (have := HB.out.size; simp at *; omega)) _ | with_reducible refine Below.setCell ?_ (by first | exact Nat.le_refl _ | with_reducible exact HB.out.size | omega | (simp; done) | (simp; omega) | (have := HB.out.size; simp at *; omega)) _)) b)
      have HO := Lib.hid (Own.below (by repeat (first | with_reducible exact HO.out | with_reducible apply Own.drewN | with_reducible apply Own.drew | with_reducible apply Own.alloc)) b)
      have K1 : Hid (Box _ (wr.heap.size) (x)) := Lib.hid (Box.below (by repeat (first | with_reducible exact K1.out | with_reducible apply Box.drewN | with_reducible apply Box.drew | (with_reducible refine Box.newAt ?_ ?_ <;> first | (simp; done) | rfl) | with_reducible apply Box.alloc)) b)
      try clear k1a k1b k1c k1d k1z
      have k1z := K1.out.lt
      obtain ⟨k1a, k1b, k1c, k1d⟩ := K1.out.cell
      clear b
      obtain ⟨p4, c4, rfl, _, _, _⟩ := o4.form
      rw [HZ.out]
      clear o4
      go_wp2_with fail
      refine ((HPI.out _ (Own.rd HO.out))).mono ?_
      rintro e w5 ⟨rfl, b⟩
      have Sw5 := Lib.hid b.size
      have HB := Lib.hid (chain0 (w := w) (by repeat (first | with_reducible exact Below.refl _ _ | with_reducible exact HB.out | with_reducible apply Below.drew | with_reducible apply bdN | with_reducible refine Below.alloc ?_ (by first | exact Nat.le_refl _ | with_reducible exact HB.out.size | omega | (simp; done) | (simp; omega) | (have := HB.out.size; simp at *; omega)) _ | with_reducible refine Below.setCell ?_ (by first | exact Nat.le_refl _ | with_reducible exact HB.out.size | omega | (simp; done) | (simp; omega) | (have := HB.out.size; simp at *; omega)) _)) b)
      have HO := Lib.hid (Own.below (by repeat (first | with_reducible exact HO.out | with_reducible apply Own.drewN | with_reducible apply Own.drew | with_reducible apply Own.alloc)) b)
      have K1 : Hid (Box _ (wr.heap.size) (x)) := Lib.hid (Box.below (by repeat (first | with_reducible exact K1.out | with_reducible apply Box.drewN | with_reducible apply Box.drew | (with_reducible refine Box.newAt ?_ ?_ <;> first | (simp; done) | rfl) | with_reducible apply Box.alloc)) b)
      try clear k1a k1b k1c k1d k1z
      have k1z := K1.out.lt
      obtain ⟨k1a, k1b, k1c, k1d⟩ := K1.out.cell
      clear b
      have hgl := (HO.out.span gh rfl).2
      have HO5 := Lib.hid (HO.out.alloc x.obj)
      have HB5 := Lib.hid (HB.out.alloc HB.out.size x.obj)
      have HV5 := Lib.hid (Box.new w5 x)
      have HNe := Lib.hid (show w5.heap.size ≠ gh by omega)
      clear hgl
      go_wp2_with fail
      refine (HIn.out _ w5.heap.size HO5.out HV5.out HNe.out HB5.out.size).mono ?_
      rintro e w6 ⟨g6, c6, rfl, hO6, hB6⟩
      have HO6 : Hid (Own w6 w.heap.size (.slice (some ⟨g6, 0, none⟩) (n + (k + 1)) c6) (st l (ps.take (k + 1))).1) := Lib.hid (by rw [HIe.out]; exact hO6)
      have HB6 := Lib.hid (HB5.out.trans hB6)
      clear hO6 hB6
      go_wp2_with fail
      go_roundw
      case rel => exact ⟨k + 1, g6, c6, S + z, by omega, by go_num, rfl, rfl, by omega, by omega, HSS, HO6, HB6⟩
      case measure => simp [intOf]; omega
    · have hkm : k = m := by omega
      subst hkm
      rw [List.take_of_length_le (by rw [HM.out]; exact Nat.le_refl _)] at HS
      go_wp2_with fail
      go_ret
      exact ⟨ret_int HS.out, HB.out⟩
end Go.Proofs.Ytcedbhgjabheaaa.chance

/- MeanAfter: what is counted. -/
namespace Go.Proofs.Ytcedbhgjabheaaa.chance
open Go.RowKit
open cards reg
set_option linter.unusedVariables false

theorem rst_good {l : List Cd} (hs : sorted l) (hok : l.all Cd.ok = true) : ∀ k : Nat, k ≤ 81 → sorted (rst l k) ∧ ∀ x ∈ rst l k, num x < (k : Int) ∧ x ∉ l
  | 0, _ => ⟨List.Pairwise.nil, fun x hx => by simp [rst_zero] at hx⟩
  | k + 1, h => by
    obtain ⟨h1, h2⟩ := rst_good hs hok k (by omega)
    have hko := cdAt_okN (n := (k : Int)) (by omega) (by omega)
    cases ht : there l (cdAt (k : Int))
    · rw [rst_yes ht]
      refine ⟨List.pairwise_append.2 ⟨h1, List.pairwise_singleton _ _, fun x hx y hy => ?_⟩, fun x hx => ?_⟩
      · rw [List.mem_singleton.1 hy, cdAt_numN (by omega) (by omega)]
        exact (h2 x hx).1
      · rcases List.mem_append.1 hx with hx | hx
        · have := h2 x hx
          exact ⟨by omega, this.2⟩
        · rw [List.mem_singleton.1 hx]
          exact ⟨by rw [cdAt_numN (by omega) (by omega)]; omega, fun hm => by rw [(there_iff hs hok hko).2 hm] at ht; cases ht⟩
    · rw [rst_no ht]
      exact ⟨h1, fun x hx => by have := h2 x hx; exact ⟨by omega, this.2⟩⟩
theorem nodup_of {l : List Cd} (h : sorted l) : l.Nodup := List.nodup_iff_pairwise_ne.2 (List.Pairwise.imp (fun {a b} hab e => by rw [e] at hab; omega) h)

set_option maxRecDepth 100000 in
set_option maxHeartbeats 2000000 in
theorem count_new (w0 : World) (l : List Cd) (b0 o0 n c N : Nat) (hn : l.length = n) (hl : n ≤ 27) (hr : Rd w0 (some ⟨b0, o0, none⟩) (flat l)) (hok : l.all Cd.ok = true) (hs : sorted l) (hN : N ≤ 2) :
    CountAt 62 #[.slice (some ⟨b0, o0, none⟩) n c] #[] w0 (rst l 81) N (fun d => (st l d).2) := by
  obtain ⟨h1, h2⟩ := rst_good hs hok 81 (Nat.le_refl _)
  refine ⟨fun args w => by kernel_rfl, fun w ps g m cp hb hrp hsub hm hn1 hmc => ?_⟩
  exact new_lines l ps b0 o0 n c g m cp w hn hl (hr.below hb) hok hs hm (by omega) hrp (ok_sub (rst_ok l (Nat.le_refl 81)) hsub) ((nodup_of h1).sublist hsub) (fun x hx => (h2 x (hsub.subset hx)).2)

/-- What the model adds up: for each card, and for each two. -/
def sa (l L : List Cd) : Nat := (L.map (fun c => psM c l)).sum
def wn (l : List Cd) (c d : Cd) : Nat := nat (there l (third c d))
theorem wn_comm (l : List Cd) (c d : Cd) : wn l c d = wn l d c := by unfold wn; rw [third_comm]
def smW (l : List Cd) (z : Cd) (L : List Cd) : Nat := (L.map (wn l z)).sum
def psW (l : List Cd) : List Cd → Nat
  | [] => 0
  | x :: r => smW l x r + psW l r
theorem smW_snoc (l : List Cd) (z x : Cd) (L : List Cd) : smW l z (L ++ [x]) = smW l z L + wn l z x := by simp [smW]
theorem psW_snoc (l : List Cd) (z : Cd) : ∀ L : List Cd, psW l (L ++ [z]) = psW l L + smW l z L
  | [] => by simp [psW, smW]
  | x :: r => by
    have h := psW_snoc l z r
    have h2 := smW_snoc l x z r
    have h3 := wn_comm l x z
    have c2 : smW l z (x :: r) = wn l z x + smW l z r := by simp [smW]
    simp only [List.cons_append, psW, h, h2, c2]
    omega
theorem sa_snoc (l : List Cd) (z : Cd) (L : List Cd) : sa l (L ++ [z]) = sa l L + psM z l := by simp [sa]
theorem st_two {l : List Cd} {c d : Cd} (hs : sorted l) (hok : l.all Cd.ok = true) (hc : c.ok = true) (hd : d.ok = true) (hcl : c ∉ l) (hne : c ≠ d) : (st l [c, d]).2 = psM c l + psM d l + wn l c d := by
  have hth : there l c = false := by
    cases h : there l c
    · rfl
    · exact absurd ((there_iff hs hok hc).1 h) hcl
  show 0 + psM c l + psM d (put l c) = _
  rw [put_is hth]
  unfold insC
  rw [List.append_assoc]
  show _ + psM d (l.take (less l c) ++ (c :: l.drop (less l c))) = _
  rw [psM_ins hd hc _ _ (ok_sub hok (List.take_sublist _ _)), List.take_append_drop, smM_mem l hs]
  have h1 : same c d = false := by
    cases h : same c d
    · rfl
    · exact absurd (same_iff.1 h) hne
  have h2 : (if same c d = false ∧ third d c ∈ l then 1 else 0 : Nat) = wn l c d := by
    unfold wn nat
    rw [third_comm c d]
    by_cases hm : third d c ∈ l
    · rw [if_pos ⟨h1, hm⟩, (there_iff hs hok (third_ok d c)).2 hm]; rfl
    · rw [if_neg (fun h => hm h.2)]
      cases h : there l (third d c)
      · rfl
      · exact absurd ((there_iff hs hok (third_ok d c)).1 h) hm
  rw [h2]; omega
theorem tot_new1 (l : List Cd) : ∀ L : List Cd, tot (fun d => (st l d).2) 1 L [] = sa l L
  | [] => rfl
  | x :: r => by
    have h := tot_new1 l r
    rw [tot, tot_zero, h]
    show 0 + psM x l + sa l r = _
    simp [sa]
theorem tot_newc {l : List Cd} {c : Cd} (hs : sorted l) (hok : l.all Cd.ok = true) (hc : c.ok = true) (hcl : c ∉ l) : ∀ r : List Cd, r.all Cd.ok = true → (∀ d ∈ r, c ≠ d) → tot (fun d => (st l d).2) 1 r [c] = r.length * psM c l + sa l r + smW l c r
  | [], _, _ => by simp [tot, sa, smW]
  | d :: r, h, hne => by
    simp only [List.all_cons, Bool.and_eq_true] at h
    have ih := tot_newc hs hok hc hcl r h.2 (fun x hx => hne x (by simp [hx]))
    have h2 := st_two hs hok hc h.1 hcl (hne d (by simp))
    rw [tot, tot_zero, ih]
    show (st l [c, d]).2 + _ = _
    rw [h2]
    have e1 : sa l (d :: r) = psM d l + sa l r := by simp [sa]
    have e2 : smW l c (d :: r) = wn l c d + smW l c r := by simp [smW]
    rw [e1, e2, List.length_cons, Nat.succ_mul]
    omega
theorem tot_new2 {l : List Cd} (hs : sorted l) (hok : l.all Cd.ok = true) : ∀ L : List Cd, L.all Cd.ok = true → L.Nodup → (∀ c ∈ L, c ∉ l) → tot (fun d => (st l d).2) 2 L [] + sa l L = L.length * sa l L + psW l L
  | [], _, _, _ => by simp [tot, sa, psW]
  | c :: r, h, hnd, hni => by
    simp only [List.all_cons, Bool.and_eq_true] at h
    obtain ⟨hn1, hn2⟩ := List.nodup_cons.1 hnd
    have ih := tot_new2 hs hok r h.2 hn2 (fun x hx => hni x (by simp [hx]))
    have h1 := tot_newc hs hok h.1 (hni c (by simp)) r h.2 (fun d hd e => hn1 (by rw [e]; exact hd))
    have e1 : sa l (c :: r) = psM c l + sa l r := by simp [sa]
    have e2 : psW l (c :: r) = smW l c r + psW l r := rfl
    show tot _ 1 r [c] + tot _ 2 r [] + _ = _
    rw [h1, e1, e2, List.length_cons, Nat.succ_mul, Nat.mul_add]
    omega
theorem sa_le {l : List Cd} (hs : sorted l) (hok : l.all Cd.ok = true) : ∀ L : List Cd, L.all Cd.ok = true → sa l L ≤ l.length * L.length
  | [], _ => by simp [sa]
  | c :: r, h => by
    simp only [List.all_cons, Bool.and_eq_true] at h
    have ih := sa_le hs hok r h.2
    have h1 := psM_le hs hok h.1
    have e1 : sa l (c :: r) = psM c l + sa l r := by simp [sa]
    rw [e1, List.length_cons, Nat.mul_succ]; omega
theorem smW_le (l : List Cd) (z : Cd) : ∀ L : List Cd, smW l z L ≤ L.length
  | [] => by simp [smW]
  | c :: r => by
    have ih := smW_le l z r
    have c2 : smW l z (c :: r) = wn l z c + smW l z r := by simp [smW]
    have h1 : wn l z c ≤ 1 := nat_le _
    rw [c2, List.length_cons]; omega
theorem psW_le (l : List Cd) : ∀ L : List Cd, psW l L ≤ L.length * L.length
  | [] => by simp [psW]
  | c :: r => by
    have ih := psW_le l r
    have h1 := smW_le l c r
    simp only [psW, List.length_cons, Nat.succ_mul, Nat.mul_succ]; omega
end Go.Proofs.Ytcedbhgjabheaaa.chance

/- MeanAfter: the program's. -/
namespace Go.Proofs.Ytcedbhgjabheaaa.chance
open Go.RowKit
open cards reg
set_option linter.unusedVariables false

/-- What is added up for N cards more. -/
noncomputable def maT (l : List Cd) (N : Nat) : Nat := tot (fun d => (st l d).2) N (rst l 81) []
noncomputable def maR (l : List Cd) (N : Int) : (Int × Int) × Bool := if handB l = true ∧ 0 ≤ N ∧ N ≤ 2 then (frac ((allL l l.length).length * cho (rst l 81).length N.toNat + maT l N.toNat) (cho (rst l 81).length N.toNat), true) else ((0, 0), false)
theorem maR_no {l : List Cd} {N : Int} (h : ¬ (handB l = true ∧ 0 ≤ N ∧ N ≤ 2)) : maR l N = ((0, 0), false) := if_neg h
theorem maT_le {l : List Cd} (h : isHand l) {N : Nat} (hN : N ≤ 2) : maT l N ≤ 200000 := by
  obtain ⟨h27, hok, hs⟩ := h
  have hL := rst_len l 81
  have hLo := rst_ok l (Nat.le_refl 81)
  obtain ⟨hg1, hg2⟩ := rst_good hs hok 81 (Nat.le_refl _)
  have h1 := sa_le hs hok (rst l 81) hLo
  have h2 := psW_le l (rst l 81)
  have h3 := Nat.mul_le_mul h27 hL
  have h4 := Nat.mul_le_mul hL hL
  have h5 := Nat.mul_le_mul hL (show sa l (rst l 81) ≤ 27 * 81 by omega)
  unfold maT
  rcases (show N = 0 ∨ N = 1 ∨ N = 2 by omega) with rfl | rfl | rfl
  · rw [tot_zero]; simp [st]
  · rw [tot_new1]; omega
  · have := tot_new2 hs hok (rst l 81) hLo (nodup_of hg1) (fun c hc => (hg2 c hc).2)
    omega
theorem cho_81le {n k : Nat} (hn : n ≤ 81) (hk : k ≤ 2) : cho n k ≤ 6561 := by
  rcases (show k = 0 ∨ k = 1 ∨ k = 2 by omega) with rfl | rfl | rfl
  · rw [cho_zero]; omega
  · rw [cho_one]; omega
  · have h : cho n 2 * 2 = cho n 1 * (n - 1) := cho_mul n 1
    rw [cho_one] at h
    have h2 := Nat.mul_le_mul hn (show n - 1 ≤ 81 by omega)
    omega
theorem frac_bd (T D : Nat) : 0 ≤ (frac T D).1 ∧ (frac T D).1 ≤ T ∧ 0 ≤ (frac T D).2 ∧ (frac T D).2 ≤ D := by
  unfold frac
  have h1 := Nat.div_le_self T (Nat.gcd T D)
  have h2 := Nat.div_le_self D (Nat.gcd T D)
  simp only
  generalize T / Nat.gcd T D = a at *
  generalize D / Nat.gcd T D = b at *
  omega

set_option maxRecDepth 100000 in
set_option maxHeartbeats 4000000 in
theorem impl_ma (l : List Cd) (N : Int) (b0 o0 n c : Nat) (w : World) (hn : l.length = n) (hl : n ≤ 1000000000) (hr : Rd w (some ⟨b0, o0, none⟩) (flat l)) (hcp : n ≤ c) :
    Calls Try.prog 27 #[.slice (some ⟨b0, o0, none⟩) n c, .int .i64 N] w fun e w' => e = .returned (.tuple #[.agg (fv (maR l N).1), .bool (maR l N).2]) ∧ Below w.heap.size w w' := by
  have K0 : Hid (VB (w.alloc (.cells (fv (0, 0)) 24)) w.heap.size 24 (fv (0, 0))) := Lib.hid (VB.newAt rfl rfl)
  have HN := Lib.hid hn
  have HR := Lib.hid hr
  clear hn hr
  have HLI := fun w (hr : Rd w (some ⟨b0, o0, none⟩) (flat l)) => impl_lin l (some ⟨b0, o0, none⟩) n c w HN.out hl hr
  cases hh : handB l
  · have HT : Hid (maR l N = ((0, 0), false)) := Lib.hid (maR_no (by simp [hh]))
    rw [show linR l = ([], false) by unfold linR; rw [if_neg (by simp [hh])]] at HLI
    have HLI := Lib.hid HLI
    clear hh
    go_enter Try.func27, Try.ntmps27
    go_wp2_with fail
    refine ((HLI.out _ (by repeat (first | with_reducible exact HR.out | with_reducible apply Rd.drewN | with_reducible apply Rd.drew | with_reducible apply Rd.alloc)))).mono ?_
    rintro e w1 ⟨u, rfl, hu, b⟩
    have Sw1 := Lib.hid b.size
    have HB := Lib.hid (chain0 (w := w) (by repeat (first | with_reducible exact Below.refl _ _ | with_reducible exact HB.out | with_reducible apply Below.drew | with_reducible apply bdN | with_reducible refine Below.alloc ?_ (by first | exact Nat.le_refl _ | with_reducible exact HB.out.size | omega | (simp; done) | (simp; omega) | (have := HB.out.size; simp at *; omega)) _ | with_reducible refine Below.setCell ?_ (by first | exact Nat.le_refl _ | with_reducible exact HB.out.size | omega | (simp; done) | (simp; omega) | (have := HB.out.size; simp at *; omega)) _)) b)
    have HR := Lib.hid (Rd.below (by repeat (first | with_reducible exact HR.out | with_reducible apply Rd.drewN | with_reducible apply Rd.drew | with_reducible apply Rd.alloc)) b)
    have K0 := Lib.hid (VB.below (by repeat (first | with_reducible exact K0.out | with_reducible apply VB.drewN | with_reducible apply VB.drew | with_reducible apply VB.alloc)) b)
    clear b
    go_wp2_with ((with_reducible refine store_a2 rfl _ _ rfl K0.out ?_ (0, 0) ?_ ?_); rfl; rfl; intro w2 hM hG)
    try simp only [Exit.inBlock, Exit.then]
    refine bodyPost_ret (res_vb2 Try.results27 rfl hM Try.underlying24 (a2_info rfl)) rfl ?_
    exact ⟨by rw [HT.out]; rfl, HB.out.grown hG HB.out.size (fun k hk => by injection hk with hk; omega)⟩
  rw [show linR l = (allL l l.length, true) by unfold linR; rw [if_pos hh]] at HLI
  have hHd := handB_true.1 hh
  have h27 : n ≤ 27 := by have := hHd.1; have := HN.out; omega
  have hLl := allL_len l l.length
  have hL2 : l.length * l.length ≤ 27 * 27 := Nat.mul_le_mul hHd.1 hHd.1
  rcases (show N < 0 ∨ (¬ N < 0 ∧ 2 < N) ∨ (0 ≤ N ∧ N ≤ 2) by omega) with h | ⟨h, h2⟩ | h
  iterate 2 (
    · have HT : Hid (maR l N = ((0, 0), false)) := Lib.hid (maR_no (by omega))
      have HLI := Lib.hid HLI
      clear hh hHd hLl hL2
      go_enter Try.func27, Try.ntmps27
      go_wp2_with fail
      refine ((HLI.out _ (by repeat (first | with_reducible exact HR.out | with_reducible apply Rd.drewN | with_reducible apply Rd.drew | with_reducible apply Rd.alloc)))).mono ?_
      rintro e w1 ⟨u, rfl, hu, b⟩
      have Sw1 := Lib.hid b.size
      have HB := Lib.hid (chain0 (w := w) (by repeat (first | with_reducible exact Below.refl _ _ | with_reducible exact HB.out | with_reducible apply Below.drew | with_reducible apply bdN | with_reducible refine Below.alloc ?_ (by first | exact Nat.le_refl _ | with_reducible exact HB.out.size | omega | (simp; done) | (simp; omega) | (have := HB.out.size; simp at *; omega)) _ | with_reducible refine Below.setCell ?_ (by first | exact Nat.le_refl _ | with_reducible exact HB.out.size | omega | (simp; done) | (simp; omega) | (have := HB.out.size; simp at *; omega)) _)) b)
      have HR := Lib.hid (Rd.below (by repeat (first | with_reducible exact HR.out | with_reducible apply Rd.drewN | with_reducible apply Rd.drew | with_reducible apply Rd.alloc)) b)
      have K0 := Lib.hid (VB.below (by repeat (first | with_reducible exact K0.out | with_reducible apply VB.drewN | with_reducible apply VB.drew | with_reducible apply VB.alloc)) b)
      clear b
      go_wp2_with ((with_reducible refine store_a2 rfl _ _ rfl K0.out ?_ (0, 0) ?_ ?_); rfl; rfl; intro w2 hM hG)
      try simp only [Exit.inBlock, Exit.then]
      refine bodyPost_ret (res_vb2 Try.results27 rfl hM Try.underlying24 (a2_info rfl)) rfl ?_
      exact ⟨by rw [HT.out]; rfl, HB.out.grown hG HB.out.size (fun k hk => by injection hk with hk; omega)⟩)
  · obtain ⟨M, rfl⟩ : ∃ M : Nat, N = (M : Int) := ⟨N.toNat, by omega⟩
    have hRok := rst_ok l (Nat.le_refl 81)
    have hRl := rst_len l 81
    have hR81 := rst_81 hHd.2.2 hHd.2.1
    have hTle := maT_le hHd (N := M) (by omega)
    have hDle := cho_81le (n := (rst l 81).length) (k := M) hRl (by omega)
    have hDp := cho_pos (n := (rst l 81).length) (k := M) (by have := hHd.1; omega)
    have hT : maR l M = (frac ((allL l l.length).length * cho (rst l 81).length M + maT l M) (cho (rst l 81).length M), true) := by
      unfold maR
      rw [if_pos ⟨hh, h.1, h.2⟩]; rfl
    rw [frac_more _ _ _ hDp] at hT
    have hfb := frac_bd (maT l M) (cho (rst l 81).length M)
    have HRest := Lib.hid (fun w hr => rest_of l (some ⟨b0, o0, none⟩) n c w HN.out (by omega) hr hHd.2.1 hHd.2.2)
    have HMd := fun w q cq hkc hr0 hr1 => mean_drawn 62 #[.slice (some ⟨b0, o0, none⟩) n c] #[] w (rst l 81) M (fun d => (st l d).2) (count_new w l b0 o0 n c M HN.out h27 hr0 hHd.2.1 hHd.2.2 (by omega)) q (rst l 81).length cq rfl hkc (by omega) (by omega) hr1 (by unfold maT at hTle; omega) (by omega)
    rw [show tot (fun d => (st l d).2) M (rst l 81) [] = maT l M from rfl, mdR_1 hDp] at HMd
    obtain ⟨m, hm⟩ : ∃ m, (rst l 81).length = m := ⟨_, rfl⟩
    rw [hm] at HMd hT hfb hDle
    have HMl := Lib.hid hm
    obtain ⟨fr, hfr⟩ : ∃ fr, frac (maT l M) (cho m M) = fr := ⟨_, rfl⟩
    rw [hfr] at HMd hT hfb
    obtain ⟨fa, fb⟩ := fr
    simp only at hT hfb HMd
    have HMd := Lib.hid HMd
    generalize allL l l.length = LL at *
    obtain ⟨m0, hm0⟩ : ∃ m0, LL.length = m0 := ⟨_, rfl⟩
    have HLl := Lib.hid hm0
    rw [hm0] at hT hLl
    have HT := Lib.hid hT
    have HLI := Lib.hid HLI
    have hm729 : m0 ≤ 729 := by omega
    have p0 : 0 ≤ (m0 : Int) * fb := Int.mul_nonneg (by omega) hfb.2.2.1
    have p1 : (m0 : Int) * fb ≤ 729 * 6561 := by
      have h1 : (m0 : Int) * fb ≤ 729 * fb := Int.mul_le_mul_of_nonneg_right (by omega) hfb.2.2.1
      have h2 : fb ≤ 6561 := by omega
      omega
    have HPb := Lib.hid (⟨p0, p1⟩ : 0 ≤ (m0 : Int) * fb ∧ (m0 : Int) * fb ≤ 729 * 6561)
    obtain ⟨P, hP⟩ : ∃ P : Int, (m0 : Int) * fb = P := ⟨_, rfl⟩
    rw [hP] at p0 p1
    have hPw : IntKind.i64.wrap P = P := IntWalk.i64_in _ (by omega)
    have hSw : IntKind.i64.wrap (fa + P) = fa + P := IntWalk.i64_in _ (by omega)
    have hs1 : fa + P ≤ 100000000 := by omega
    have hs0 : 0 ≤ fa + P := by omega
    have HPe := Lib.hid hP
    have h0 : ¬ (M : Int) < 0 := by omega
    have h1 : (M : Int) ≤ 2 := h.2
    clear hh hHd hLl hL2 hRok hRl hR81 hTle hDle hDp hT hfr hm hm0 h hfb
    generalize rst l 81 = L at *
    go_enter Try.func27, Try.ntmps27
    go_wp2_with fail
    refine ((HLI.out _ (by repeat (first | with_reducible exact HR.out | with_reducible apply Rd.drewN | with_reducible apply Rd.drew | with_reducible apply Rd.alloc)))).mono ?_
    rintro e w1 ⟨u, rfl, hu, b⟩
    have Sw1 := Lib.hid b.size
    have HB := Lib.hid (chain0 (w := w) (by repeat (first | with_reducible exact Below.refl _ _ | with_reducible exact HB.out | with_reducible apply Below.drew | with_reducible apply bdN | with_reducible refine Below.alloc ?_ (by first | exact Nat.le_refl _ | with_reducible exact HB.out.size | omega | (simp; done) | (simp; omega) | (have := HB.out.size; simp at *; omega)) _ | with_reducible refine Below.setCell ?_ (by first | exact Nat.le_refl _ | with_reducible exact HB.out.size | omega | (simp; done) | (simp; omega) | (have := HB.out.size; simp at *; omega)) _)) b)
    have HR := Lib.hid (Rd.below (by repeat (first | with_reducible exact HR.out | with_reducible apply Rd.drewN | with_reducible apply Rd.drew | with_reducible apply Rd.alloc)) b)
    have K0 := Lib.hid (VB.below (by repeat (first | with_reducible exact K0.out | with_reducible apply VB.drewN | with_reducible apply VB.drew | with_reducible apply VB.alloc)) b)
    clear b
    obtain ⟨pu, cu, rfl, _, _, _⟩ := hu.form
    rw [HLl.out]
    clear hu
    go_wp2_with fail
    refine ((HRest.out _ (by repeat (first | with_reducible exact HR.out | with_reducible apply Rd.drewN | with_reducible apply Rd.drew | with_reducible apply Rd.alloc)))).mono ?_
    rintro e w2 ⟨u2, rfl, hu, b⟩
    have Sw2 := Lib.hid b.size
    have HB := Lib.hid (chain0 (w := w) (by repeat (first | with_reducible exact Below.refl _ _ | with_reducible exact HB.out | with_reducible apply Below.drew | with_reducible apply bdN | with_reducible refine Below.alloc ?_ (by first | exact Nat.le_refl _ | with_reducible exact HB.out.size | omega | (simp; done) | (simp; omega) | (have := HB.out.size; simp at *; omega)) _ | with_reducible refine Below.setCell ?_ (by first | exact Nat.le_refl _ | with_reducible exact HB.out.size | omega | (simp; done) | (simp; omega) | (have := HB.out.size; simp at *; omega)) _)) b)
    have HR := Lib.hid (Rd.below (by repeat (first | with_reducible exact HR.out | with_reducible apply Rd.drewN | with_reducible apply Rd.drew | with_reducible apply Rd.alloc)) b)
    have K0 := Lib.hid (VB.below (by repeat (first | with_reducible exact K0.out | with_reducible apply VB.drewN | with_reducible apply VB.drew | with_reducible apply VB.alloc)) b)
    clear b
    obtain ⟨pr, cr, rfl, hcr, hrr, _⟩ := hu.form
    rw [HMl.out] at hcr ⊢
    have HU := Lib.hid hrr
    clear hu hrr
    go_wp2_with fail
    refine ((HMd.out _ pr cr hcr (by repeat (first | with_reducible exact HR.out | with_reducible apply Rd.drewN | with_reducible apply Rd.drew | with_reducible apply Rd.alloc)) HU.out)).mono ?_
    rintro e w3 ⟨rfl, b⟩
    have Sw3 := Lib.hid b.size
    have HB := Lib.hid (chain0 (w := w) (by repeat (first | with_reducible exact Below.refl _ _ | with_reducible exact HB.out | with_reducible apply Below.drew | with_reducible apply bdN | with_reducible refine Below.alloc ?_ (by first | exact Nat.le_refl _ | with_reducible exact HB.out.size | omega | (simp; done) | (simp; omega) | (have := HB.out.size; simp at *; omega)) _ | with_reducible refine Below.setCell ?_ (by first | exact Nat.le_refl _ | with_reducible exact HB.out.size | omega | (simp; done) | (simp; omega) | (have := HB.out.size; simp at *; omega)) _)) b)
    have HR := Lib.hid (Rd.below (by repeat (first | with_reducible exact HR.out | with_reducible apply Rd.drewN | with_reducible apply Rd.drew | with_reducible apply Rd.alloc)) b)
    have K0 := Lib.hid (VB.below (by repeat (first | with_reducible exact K0.out | with_reducible apply VB.drewN | with_reducible apply VB.drew | with_reducible apply VB.alloc)) b)
    clear b
    have K8 : Hid (VB (w3.alloc (.cells (fv (fa, fb)) 24)) w3.heap.size 24 (fv (fa, fb))) := Lib.hid (VB.newAt rfl rfl)
    have HZ : Hid (w.heap.size < w3.heap.size) := Lib.hid K0.out.lt
    have c0 : (w3.alloc (.cells #[.int .i64 fa, .int .i64 fb] 24)).cell? ⟨w3.heap.size, 0, none⟩ = some (.int .i64 fa) := VB.at_ K8.out (j := 0) rfl
    have c1 : (w3.alloc (.cells #[.int .i64 fa, .int .i64 fb] 24)).cell? ⟨w3.heap.size, 1, none⟩ = some (.int .i64 fb) := VB.at_ K8.out (j := 1) rfl
    have f8 := VB.frozen K8.out
    go_upto_region 6 with fail
    have K9 : Hid (VB (w3.alloc (.cells (fv (fa + P, fb)) 24)) w3.heap.size 24 (fv (fa + P, fb))) := Lib.hid (VB.newAt rfl rfl)
    have K0 := Lib.hid (K0.out.alloc (.cells (fv (fa + P, fb)) 24))
    have HB := Lib.hid (HB.out.alloc HB.out.size (.cells (fv (fa + P, fb)) 24))
    clear c0 c1 f8 K8
    go_wp2_with (first
      | ((with_reducible refine take_vb rfl 24 _ rfl K9.out Try.underlying24 (a2_info rfl) ?_ ?_); rfl)
      | ((with_reducible refine store_a2 rfl _ _ rfl K0.out ?_ (fa + P, fb) ?_ ?_); rfl; rfl; intro w6 hM hG))
    try simp only [Exit.inBlock, Exit.then]
    refine bodyPost_ret (res_vb2 Try.results27 rfl hM Try.underlying24 (a2_info rfl)) rfl ?_
    exact ⟨by rw [HT.out, HPe.out]; rfl, HB.out.grown hG HB.out.size (fun k hk => by injection hk with hk; omega)⟩
end Go.Proofs.Ytcedbhgjabheaaa.chance

/- MeanAfter: the model's. -/
namespace Go.Proofs.Ytcedbhgjabheaaa.chance
open Go.RowKit
open cards reg
set_option linter.unusedVariables false

theorem frac_one (x : Nat) : frac x 1 = ((x : Int), 1) := by unfold frac; simp
theorem maR_0 {l : List Cd} (hh : handB l = true) : maR l ((0 : Nat) : Int) = (((((allL l l.length).length : Nat) : Int), 1), true) := by
  unfold maR
  rw [if_pos ⟨hh, by omega, by omega⟩]
  show (frac ((allL l l.length).length * cho (rst l 81).length 0 + maT l 0) (cho (rst l 81).length 0), true) = _
  rw [cho_zero, show maT l 0 = 0 by unfold maT; rw [tot_zero]; rfl, Nat.mul_one, Nat.add_zero, frac_one]
theorem maR_1 {l : List Cd} (hh : handB l = true) : maR l ((1 : Nat) : Int) = (frac ((allL l l.length).length * (rst l 81).length + sa l (rst l 81)) (rst l 81).length, true) := by
  unfold maR
  rw [if_pos ⟨hh, by omega, by omega⟩]
  show (frac ((allL l l.length).length * cho (rst l 81).length 1 + maT l 1) (cho (rst l 81).length 1), true) = _
  rw [cho_one, show maT l 1 = sa l (rst l 81) from tot_new1 l _]
theorem maR_2 {l : List Cd} (hh : handB l = true) : maR l ((2 : Nat) : Int) = (frac ((allL l l.length).length * cho (rst l 81).length 2 + sa l (rst l 81) * ((rst l 81).length - 1) + psW l (rst l 81)) (cho (rst l 81).length 2), true) := by
  have hHd := handB_true.1 hh
  obtain ⟨hg1, hg2⟩ := rst_good hHd.2.2 hHd.2.1 81 (Nat.le_refl _)
  have h := tot_new2 hHd.2.2 hHd.2.1 (rst l 81) (rst_ok l (Nat.le_refl 81)) (nodup_of hg1) (fun c hc => (hg2 c hc).2)
  have h81 := rst_81 hHd.2.2 hHd.2.1
  have h27 := hHd.1
  unfold maR
  rw [if_pos ⟨hh, by omega, by omega⟩]
  show (frac ((allL l l.length).length * cho (rst l 81).length 2 + maT l 2) (cho (rst l 81).length 2), true) = _
  have e : maT l 2 = sa l (rst l 81) * ((rst l 81).length - 1) + psW l (rst l 81) := by
    unfold maT
    obtain ⟨r, hr⟩ : ∃ r, (rst l 81).length = r + 1 := ⟨(rst l 81).length - 1, by omega⟩
    rw [hr] at h ⊢
    rw [Nat.succ_mul] at h
    rw [Nat.add_sub_cancel, Nat.mul_comm]
    omega
  rw [e, Nat.add_assoc]

set_option maxRecDepth 100000 in
set_option maxHeartbeats 4000000 in
theorem spec_ma_no (l : List Cd) (N : Int) (p : Option Addr) (n c : Nat) (w : World) (hn : l.length = n) (hl : n ≤ 1000000000) (hr : Rd w p (flat l)) (hno : handB l = false ∨ (N < 0 ∨ 2 < N)) :
    Calls Try.prog 26 #[.slice p n c, .int .i64 N] w fun e w' => e = .returned (.tuple #[.agg (fv (0, 0)), .bool false]) ∧ Below w.heap.size w w' := by
  have K0 : Hid (VB (w.alloc (.cells (fv (0, 0)) 24)) w.heap.size 24 (fv (0, 0))) := Lib.hid (VB.newAt rfl rfl)
  have HN := Lib.hid hn
  have HR := Lib.hid hr
  clear hn hr
  cases hh : handB l
  · have HH := Lib.hid hh
    clear hh hno
    go_enter Try.func26, Try.ntmps26
    go_wp2_with fail
    refine ((l2_hand l p n c _ HN.out hl (by repeat (first | with_reducible exact HR.out | with_reducible apply Rd.drewN | with_reducible apply Rd.drew | with_reducible apply Rd.alloc)))).mono ?_
    rintro e w1 ⟨rfl, b⟩
    have Sw1 := Lib.hid b.size
    have HB := Lib.hid (chain0 (w := w) (by repeat (first | with_reducible exact Below.refl _ _ | with_reducible exact HB.out | with_reducible apply Below.drew | with_reducible apply bdN | with_reducible refine Below.alloc ?_ (by first | exact Nat.le_refl _ | with_reducible exact HB.out.size | omega | (simp; done) | (simp; omega) | (have := HB.out.size; simp at *; omega)) _ | with_reducible refine Below.setCell ?_ (by first | exact Nat.le_refl _ | with_reducible exact HB.out.size | omega | (simp; done) | (simp; omega) | (have := HB.out.size; simp at *; omega)) _)) b)
    have HR := Lib.hid (Rd.below (by repeat (first | with_reducible exact HR.out | with_reducible apply Rd.drewN | with_reducible apply Rd.drew | with_reducible apply Rd.alloc)) b)
    have K0 := Lib.hid (VB.below (by repeat (first | with_reducible exact K0.out | with_reducible apply VB.drewN | with_reducible apply VB.drew | with_reducible apply VB.alloc)) b)
    clear b
    rw [HH.out]
    go_wp2_with ((with_reducible refine store_a2 rfl _ _ rfl K0.out ?_ (0, 0) ?_ ?_); rfl; rfl; intro w2 hM hG)
    try simp only [Exit.inBlock, Exit.then]
    refine bodyPost_ret (res_vb2 Try.results26 rfl hM Try.underlying24 (a2_info rfl)) rfl ?_
    exact ⟨rfl, HB.out.grown hG HB.out.size (fun k hk => by injection hk with hk; omega)⟩
  · have hN : N < 0 ∨ 2 < N := hno.resolve_left (by rw [hh]; simp)
    have HI := Lib.hid (fun w => in_no N 0 2 w hN)
    have HH := Lib.hid hh
    clear hh hno hN
    go_enter Try.func26, Try.ntmps26
    go_wp2_with fail
    refine ((l2_hand l p n c _ HN.out hl (by repeat (first | with_reducible exact HR.out | with_reducible apply Rd.drewN | with_reducible apply Rd.drew | with_reducible apply Rd.alloc)))).mono ?_
    rintro e w1 ⟨rfl, b⟩
    have Sw1 := Lib.hid b.size
    have HB := Lib.hid (chain0 (w := w) (by repeat (first | with_reducible exact Below.refl _ _ | with_reducible exact HB.out | with_reducible apply Below.drew | with_reducible apply bdN | with_reducible refine Below.alloc ?_ (by first | exact Nat.le_refl _ | with_reducible exact HB.out.size | omega | (simp; done) | (simp; omega) | (have := HB.out.size; simp at *; omega)) _ | with_reducible refine Below.setCell ?_ (by first | exact Nat.le_refl _ | with_reducible exact HB.out.size | omega | (simp; done) | (simp; omega) | (have := HB.out.size; simp at *; omega)) _)) b)
    have HR := Lib.hid (Rd.below (by repeat (first | with_reducible exact HR.out | with_reducible apply Rd.drewN | with_reducible apply Rd.drew | with_reducible apply Rd.alloc)) b)
    have K0 := Lib.hid (VB.below (by repeat (first | with_reducible exact K0.out | with_reducible apply VB.drewN | with_reducible apply VB.drew | with_reducible apply VB.alloc)) b)
    clear b
    rw [HH.out]
    go_wp2_with fail
    refine (HI.out _).mono ?_
    rintro e w' ⟨rfl, rfl⟩
    go_wp2_with ((with_reducible refine store_a2 rfl _ _ rfl K0.out ?_ (0, 0) ?_ ?_); rfl; rfl; intro w2 hM hG)
    try simp only [Exit.inBlock, Exit.then]
    refine bodyPost_ret (res_vb2 Try.results26 rfl hM Try.underlying24 (a2_info rfl)) rfl ?_
    exact ⟨rfl, HB.out.grown hG HB.out.size (fun k hk => by injection hk with hk; omega)⟩

set_option maxRecDepth 100000 in
set_option maxHeartbeats 4000000 in
theorem spec_ma_0 (l : List Cd) (p : Option Addr) (n c : Nat) (w : World) (hn : l.length = n) (hl : n ≤ 1000000000) (hr : Rd w p (flat l)) (hh : handB l = true) :
    Calls Try.prog 26 #[.slice p n c, .int .i64 0] w fun e w' => e = .returned (.tuple #[.agg (fv ((((allL l l.length).length : Nat) : Int), 1)), .bool true]) ∧ Below w.heap.size w w' := by
  have K0 : Hid (VB (w.alloc (.cells (fv (0, 0)) 24)) w.heap.size 24 (fv (0, 0))) := Lib.hid (VB.newAt rfl rfl)
  have HN := Lib.hid hn
  have HR := Lib.hid hr
  have hHd := handB_true.1 hh
  have h27 : n ≤ 27 := by have := hHd.1; omega
  have HH := Lib.hid hh
  have HI := Lib.hid (fun w => in_yes 0 0 2 w (by omega) (by omega))
  have HLI := fun w (hr : Rd w p (flat l)) => l2_lines l p n c w HN.out h27 hr hHd.2.1 hHd.2.2
  have HRt := Lib.hid (fun w (hr : Rd w p (flat l)) => l9_rest l p n c w HN.out (by omega) hr hHd.2.1 hHd.2.2)
  rw [show allL l n = allL l l.length by rw [HN.out]] at HLI
  generalize allL l l.length = LL at *
  obtain ⟨m0, hm0⟩ : ∃ m0, LL.length = m0 := ⟨_, rfl⟩
  have HLl := Lib.hid hm0
  rw [hm0]
  have HLI := Lib.hid HLI
  clear hn hr hh hHd hm0
  go_enter Try.func26, Try.ntmps26
  go_wp2_with fail
  refine ((l2_hand l p n c _ HN.out hl (by repeat (first | with_reducible exact HR.out | with_reducible apply Rd.drewN | with_reducible apply Rd.drew | with_reducible apply Rd.alloc)))).mono ?_
  rintro e w1 ⟨rfl, b⟩
  have Sw1 := Lib.hid b.size
  have HB := Lib.hid (chain0 (w := w) (by repeat (first | with_reducible exact Below.refl _ _ | with_reducible exact HB.out | with_reducible apply Below.drew | with_reducible apply bdN | with_reducible refine Below.alloc ?_ (by first | exact Nat.le_refl _ | with_reducible exact HB.out.size | omega | (simp; done) | (simp; omega) | (have := HB.out.size; simp at *; omega)) _ | with_reducible refine Below.setCell ?_ (by first | exact Nat.le_refl _ | with_reducible exact HB.out.size | omega | (simp; done) | (simp; omega) | (have := HB.out.size; simp at *; omega)) _)) b)
  have HR := Lib.hid (Rd.below (by repeat (first | with_reducible exact HR.out | with_reducible apply Rd.drewN | with_reducible apply Rd.drew | with_reducible apply Rd.alloc)) b)
  have K0 := Lib.hid (VB.below (by repeat (first | with_reducible exact K0.out | with_reducible apply VB.drewN | with_reducible apply VB.drew | with_reducible apply VB.alloc)) b)
  clear b
  rw [HH.out]
  go_wp2_with fail
  refine (HI.out _).mono ?_
  rintro e w' ⟨rfl, rfl⟩
  go_wp2_with fail
  refine ((HLI.out _ (by repeat (first | with_reducible exact HR.out | with_reducible apply Rd.drewN | with_reducible apply Rd.drew | with_reducible apply Rd.alloc)))).mono ?_
  rintro e w2 ⟨u, rfl, hu, b⟩
  have Sw2 := Lib.hid b.size
  have HB := Lib.hid (chain0 (w := w) (by repeat (first | with_reducible exact Below.refl _ _ | with_reducible exact HB.out | with_reducible apply Below.drew | with_reducible apply bdN | with_reducible refine Below.alloc ?_ (by first | exact Nat.le_refl _ | with_reducible exact HB.out.size | omega | (simp; done) | (simp; omega) | (have := HB.out.size; simp at *; omega)) _ | with_reducible refine Below.setCell ?_ (by first | exact Nat.le_refl _ | with_reducible exact HB.out.size | omega | (simp; done) | (simp; omega) | (have := HB.out.size; simp at *; omega)) _)) b)
  have HR := Lib.hid (Rd.below (by repeat (first | with_reducible exact HR.out | with_reducible apply Rd.drewN | with_reducible apply Rd.drew | with_reducible apply Rd.alloc)) b)
  have K0 := Lib.hid (VB.below (by repeat (first | with_reducible exact K0.out | with_reducible apply VB.drewN | with_reducible apply VB.drew | with_reducible apply VB.alloc)) b)
  clear b
  obtain ⟨pu, cu, rfl, _, _, _⟩ := hu.form
  rw [HLl.out]
  clear hu
  go_wp2_with fail
  refine ((HRt.out _ (by repeat (first | with_reducible exact HR.out | with_reducible apply Rd.drewN | with_reducible apply Rd.drew | with_reducible apply Rd.alloc)))).mono ?_
  rintro e w3 ⟨u2, rfl, hu, b⟩
  have Sw3 := Lib.hid b.size
  have HB := Lib.hid (chain0 (w := w) (by repeat (first | with_reducible exact Below.refl _ _ | with_reducible exact HB.out | with_reducible apply Below.drew | with_reducible apply bdN | with_reducible refine Below.alloc ?_ (by first | exact Nat.le_refl _ | with_reducible exact HB.out.size | omega | (simp; done) | (simp; omega) | (have := HB.out.size; simp at *; omega)) _ | with_reducible refine Below.setCell ?_ (by first | exact Nat.le_refl _ | with_reducible exact HB.out.size | omega | (simp; done) | (simp; omega) | (have := HB.out.size; simp at *; omega)) _)) b)
  have HR := Lib.hid (Rd.below (by repeat (first | with_reducible exact HR.out | with_reducible apply Rd.drewN | with_reducible apply Rd.drew | with_reducible apply Rd.alloc)) b)
  have K0 := Lib.hid (VB.below (by repeat (first | with_reducible exact K0.out | with_reducible apply VB.drewN | with_reducible apply VB.drew | with_reducible apply VB.alloc)) b)
  clear b
  clear hu
  go_wp2_with ((with_reducible refine store_a2 rfl _ _ rfl K0.out ?_ ((m0 : Int), 1) ?_ ?_); rfl; rfl; intro w4 hM hG)
  try simp only [Exit.inBlock, Exit.then]
  refine bodyPost_ret (res_vb2 Try.results26 rfl hM Try.underlying24 (a2_info rfl)) rfl ?_
  exact ⟨rfl, HB.out.grown hG HB.out.size (fun k hk => by injection hk with hk; omega)⟩
end Go.Proofs.Ytcedbhgjabheaaa.chance

/- MeanAfter: the model's, for one card more and for two. -/
namespace Go.Proofs.Ytcedbhgjabheaaa.chance
open Go.RowKit
open cards reg
set_option linter.unusedVariables false

theorem sa_take {l L : List Cd} {k : Nat} {x : Cd} (hx : L[k]? = some x) : sa l (L.take (k + 1)) = sa l (L.take k) + psM x l := by rw [take_sn hx, sa_snoc]
theorem psW_take {l L : List Cd} {k : Nat} {x : Cd} (hx : L[k]? = some x) : psW l (L.take (k + 1)) = psW l (L.take k) + smW l x (L.take k) := by rw [take_sn hx, psW_snoc]
theorem smW_take {l L : List Cd} {k : Nat} {x z : Cd} (hx : L[k]? = some x) : smW l z (L.take (k + 1)) = smW l z (L.take k) + wn l z x := by rw [take_sn hx, smW_snoc]

set_option maxRecDepth 100000 in
set_option maxHeartbeats 8000000 in
theorem spec_ma_12 (l : List Cd) (M : Nat) (p : Option Addr) (n c : Nat) (w : World) (hn : l.length = n) (hl : n ≤ 1000000000) (hr : Rd w p (flat l)) (hh : handB l = true) (hM : M = 1 ∨ M = 2) :
    Calls Try.prog 26 #[.slice p n c, .int .i64 M] w fun e w' => e = .returned (.tuple #[.agg (fv (maR l M).1), .bool (maR l M).2]) ∧ Below w.heap.size w w' := by
  have K0 : Hid (VB (w.alloc (.cells (fv (0, 0)) 24)) w.heap.size 24 (fv (0, 0))) := Lib.hid (VB.newAt rfl rfl)
  have HN := Lib.hid hn
  have HR := Lib.hid hr
  have HR0 := Lib.hid hr
  have hHd := handB_true.1 hh
  have h27 : n ≤ 27 := by have := hHd.1; omega
  have HH := Lib.hid hh
  have HI := Lib.hid (fun w => in_yes (M : Int) 0 2 w (by omega) (by omega))
  have HLI := fun w (hr : Rd w p (flat l)) => l2_lines l p n c w HN.out h27 hr hHd.2.1 hHd.2.2
  have HRt := Lib.hid (fun w (hr : Rd w p (flat l)) => l9_rest l p n c w HN.out (by omega) hr hHd.2.1 hHd.2.2)
  have HKok := Lib.hid hHd.2.1
  have HSrt := Lib.hid hHd.2.2
  rw [show allL l n = allL l l.length by rw [HN.out]] at HLI
  have hLl := allL_len l l.length
  have hL2 : l.length * l.length ≤ 27 * 27 := Nat.mul_le_mul hHd.1 hHd.1
  have hm1 := maR_1 hh
  have hm2 := maR_2 hh
  have hR81 := rst_81 hHd.2.2 hHd.2.1
  have hLo := rst_ok l (Nat.le_refl 81)
  have hsb := fun k => sa_le hHd.2.2 hHd.2.1 ((rst l 81).take k) (ok_sub hLo (List.take_sublist _ _))
  have hsall := sa_le hHd.2.2 hHd.2.1 (rst l 81) hLo
  have hpall := psW_le l (rst l 81)
  generalize rst l 81 = L at *
  generalize allL l l.length = LL at *
  obtain ⟨m0, hm0⟩ : ∃ m0, LL.length = m0 := ⟨_, rfl⟩
  have HLl := Lib.hid hm0
  obtain ⟨m, hm⟩ : ∃ m, L.length = m := ⟨_, rfl⟩
  have HMl := Lib.hid hm
  rw [hm0] at hm1 hm2 hLl
  rw [hm] at hm1 hm2 hR81 hsall hpall
  rw [hn] at hsall hR81
  have hm81 : m ≤ 81 ∧ 54 ≤ m := by omega
  have hm729 : m0 ≤ 729 := by omega
  have hD := cho_81le (n := m) (k := 2) hm81.1 (by omega)
  have hDp := cho_pos (n := m) (k := 2) (by omega)
  have hs1 : sa l L ≤ 27 * 81 := Nat.le_trans hsall (Nat.mul_le_mul h27 hm81.1)
  have hp1 : psW l L ≤ 81 * 81 := Nat.le_trans hpall (Nat.mul_le_mul hm81.1 hm81.1)
  have q1 : m0 * m ≤ 729 * 81 := Nat.mul_le_mul hm729 hm81.1
  have q2 : m0 * cho m 2 ≤ 729 * 6561 := Nat.mul_le_mul hm729 hD
  have q3 : sa l L * (m - 1) ≤ 27 * 81 * 81 := Nat.mul_le_mul hs1 (by omega)
  have HC1 := Lib.hid (fun w => l9_cut (m0 * m + sa l L) m w (by omega) (by omega) (by omega))
  have HC2 := Lib.hid (fun w => l9_cut (m0 * cho m 2 + sa l L * (m - 1) + psW l L) (cho m 2) w hDp (by omega) (by omega))
  have HCh := Lib.hid (fun w => l9_choose m 2 w (by omega) (by omega) (fun i hi => by have := cho_81le (n := m) (k := i) hm81.1 (by omega); omega))
  have HM1 := Lib.hid hm1
  have HM2 := Lib.hid hm2
  have HLo := Lib.hid hLo
  have HSb : Hid (∀ k, sa l (L.take k) ≤ 27 * 81) := Lib.hid (fun k => Nat.le_trans (hsb k) (by
    have h1 : (L.take k).length ≤ 81 := by rw [List.length_take, HMl.out]; omega
    rw [HN.out]; exact Nat.mul_le_mul h27 h1))
  have HPb : Hid (∀ k, psW l (L.take k) ≤ 81 * 81) := Lib.hid (fun k => Nat.le_trans (psW_le l _) (by
    have h1 : (L.take k).length ≤ 81 := by rw [List.length_take, HMl.out]; omega
    exact Nat.mul_le_mul h1 h1))
  have HWb : Hid (∀ z k, smW l z (L.take k) ≤ 81) := Lib.hid (fun z k => Nat.le_trans (smW_le l z _) (by rw [List.length_take, HMl.out]; omega))
  have HQ := Lib.hid (⟨q1, q2, q3, hs1, hp1, hDp, hD⟩ : m0 * m ≤ 729 * 81 ∧ m0 * cho m 2 ≤ 729 * 6561 ∧ sa l L * (m - 1) ≤ 27 * 81 * 81 ∧ sa l L ≤ 27 * 81 ∧ psW l L ≤ 81 * 81 ∧ 0 < cho m 2 ∧ cho m 2 ≤ 6561)
  have HLI := Lib.hid HLI
  have M0 : ¬ (M : Int) = 0 := by omega
  have Mb : ((M : Int) == 0) = false := by simp only [beq_eq_false_iff_ne, ne_eq]; exact M0
  clear hn hr hh hHd hm0 hm hm1 hm2 hLo hsb hsall hpall hLl hL2 hR81 hD hDp hs1 hp1 q1 q2 q3
  go_enter Try.func26, Try.ntmps26
  go_wp2_with fail
  refine ((l2_hand l p n c _ HN.out hl (by repeat (first | with_reducible exact HR.out | with_reducible apply Rd.drewN | with_reducible apply Rd.drew | with_reducible apply Rd.alloc)))).mono ?_
  rintro e w1 ⟨rfl, b⟩
  have Sw1 := Lib.hid b.size
  have HB := Lib.hid (chain0 (w := w) (by repeat (first | with_reducible exact Below.refl _ _ | with_reducible exact HB.out | with_reducible apply Below.drew | with_reducible apply bdN | with_reducible refine Below.alloc ?_ (by first | exact Nat.le_refl _ | with_reducible exact HB.out.size | omega | (simp; done) | (simp; omega) | (have := HB.out.size; simp at *; omega)) _ | with_reducible refine Below.setCell ?_ (by first | exact Nat.le_refl _ | with_reducible exact HB.out.size | omega | (simp; done) | (simp; omega) | (have := HB.out.size; simp at *; omega)) _)) b)
  have HR := Lib.hid (Rd.below (by repeat (first | with_reducible exact HR.out | with_reducible apply Rd.drewN | with_reducible apply Rd.drew | with_reducible apply Rd.alloc)) b)
  have K0 := Lib.hid (VB.below (by repeat (first | with_reducible exact K0.out | with_reducible apply VB.drewN | with_reducible apply VB.drew | with_reducible apply VB.alloc)) b)
  clear b
  rw [HH.out]
  go_wp2_with fail
  refine (HI.out _).mono ?_
  rintro e w' ⟨rfl, rfl⟩
  go_wp2_with fail
  refine ((HLI.out _ (by repeat (first | with_reducible exact HR.out | with_reducible apply Rd.drewN | with_reducible apply Rd.drew | with_reducible apply Rd.alloc)))).mono ?_
  rintro e w2 ⟨u, rfl, hu, b⟩
  have Sw2 := Lib.hid b.size
  have HB := Lib.hid (chain0 (w := w) (by repeat (first | with_reducible exact Below.refl _ _ | with_reducible exact HB.out | with_reducible apply Below.drew | with_reducible apply bdN | with_reducible refine Below.alloc ?_ (by first | exact Nat.le_refl _ | with_reducible exact HB.out.size | omega | (simp; done) | (simp; omega) | (have := HB.out.size; simp at *; omega)) _ | with_reducible refine Below.setCell ?_ (by first | exact Nat.le_refl _ | with_reducible exact HB.out.size | omega | (simp; done) | (simp; omega) | (have := HB.out.size; simp at *; omega)) _)) b)
  have HR := Lib.hid (Rd.below (by repeat (first | with_reducible exact HR.out | with_reducible apply Rd.drewN | with_reducible apply Rd.drew | with_reducible apply Rd.alloc)) b)
  have K0 := Lib.hid (VB.below (by repeat (first | with_reducible exact K0.out | with_reducible apply VB.drewN | with_reducible apply VB.drew | with_reducible apply VB.alloc)) b)
  clear b
  obtain ⟨pu, cu, rfl, _, _, _⟩ := hu.form
  rw [HLl.out]
  clear hu
  go_wp2_with fail
  refine ((HRt.out _ (by repeat (first | with_reducible exact HR.out | with_reducible apply Rd.drewN | with_reducible apply Rd.drew | with_reducible apply Rd.alloc)))).mono ?_
  rintro e w3 ⟨u2, rfl, hu, b⟩
  have Sw3 := Lib.hid b.size
  have HB := Lib.hid (chain0 (w := w) (by repeat (first | with_reducible exact Below.refl _ _ | with_reducible exact HB.out | with_reducible apply Below.drew | with_reducible apply bdN | with_reducible refine Below.alloc ?_ (by first | exact Nat.le_refl _ | with_reducible exact HB.out.size | omega | (simp; done) | (simp; omega) | (have := HB.out.size; simp at *; omega)) _ | with_reducible refine Below.setCell ?_ (by first | exact Nat.le_refl _ | with_reducible exact HB.out.size | omega | (simp; done) | (simp; omega) | (have := HB.out.size; simp at *; omega)) _)) b)
  have HR := Lib.hid (Rd.below (by repeat (first | with_reducible exact HR.out | with_reducible apply Rd.drewN | with_reducible apply Rd.drew | with_reducible apply Rd.alloc)) b)
  have K0 := Lib.hid (VB.below (by repeat (first | with_reducible exact K0.out | with_reducible apply VB.drewN | with_reducible apply VB.drew | with_reducible apply VB.alloc)) b)
  clear b
  have HO : Hid (Own w3 w.heap.size u2 L) := Lib.hid (hu.base (by have h1 := Sw1.out; have h2 := Sw2.out; simp at *; omega))
  clear hu
  obtain ⟨pr, cr, rfl, hcr, _, _⟩ := HO.out.form
  rw [HMl.out] at HO hcr ⊢
  go_wp2_with fail
  go_loopw [8, 9, 10] (fun s q i wr => ∃ (k : Nat) (S Q : Int), k ≤ m ∧ i = .int .i64 k ∧ s = .int .i64 S ∧ q = .int .i64 Q ∧ Hid (S = (sa l (L.take k) : Nat)) ∧ Hid (Q = (psW l (L.take k) : Nat)) ∧ Hid (Own wr w.heap.size (.slice pr m cr) L) ∧ Hid (Below w.heap.size w wr) ∧ Hid (VB wr w.heap.size 24 (fv (0, 0)))) (fun _ _ i _ => m - (intOf i).toNat)
  case atStart => exact ⟨0, 0, 0, Nat.zero_le _, rfl, rfl, rfl, Lib.hid rfl, Lib.hid rfl, HO, HB, K0⟩
  case round =>
    clear HB HO K0
    obtain ⟨k, S, Q, hk, rfl, rfl, rfl, HS, HQk, HO, HB, K0⟩ := hrel
    by_cases hlt : k < m
    · have HR := Lib.hid (HR0.out.below HB.out)
      obtain ⟨b, o, x, rfl, hb, hx, c0, c1, c2, c3⟩ := (Own.rd HO.out).card (k := k) (by rw [HMl.out]; exact hlt)
      have hxo := ok_at HLo.out hx
      have HX := Lib.hid hx
      have HXo := Lib.hid hxo
      have m0' : (0 : Int) ≤ (k : Int) := by omega
      have m1 : (k : Int) < (m : Int) := by omega
      have hti := thr_is HSrt.out HKok.out hxo
      rw [HN.out] at hti
      have hsn := sa_take (l := l) hx
      have hs1 := HSb.out k
      have hs2 := HSb.out (k + 1)
      have hS := HS.out
      have HTw := fun w' (hr : Rd w' p (flat l)) => l2_through l x p n c w' HN.out (by omega) hr HKok.out hxo HSrt.out
      rw [hti] at HTw
      generalize psM x l = t at *
      have HTw := Lib.hid HTw
      have HSn : Hid (S + (t : Int) = (sa l (L.take (k + 1)) : Nat)) := Lib.hid (by omega)
      have s0 : 0 ≤ S := by omega
      have s1 : S + (t : Int) ≤ 2187 := by omega
      have s2 : S ≤ 2187 := by omega
      have t0 : (t : Int) ≤ 2187 := by omega
      clear hti hsn hs1 hs2 hS hx hxo HS
      go_wp2_with fail
      refine ((HTw.out _ (by repeat (first | with_reducible exact HR.out | with_reducible apply Rd.drewN | with_reducible apply Rd.drew | with_reducible apply Rd.alloc)))).mono ?_
      rintro e w4 ⟨rfl, b⟩
      have Sw4 := Lib.hid b.size
      have HB := Lib.hid (chain0 (w := w) (by repeat (first | with_reducible exact Below.refl _ _ | with_reducible exact HB.out | with_reducible apply Below.drew | with_reducible apply bdN | with_reducible refine Below.alloc ?_ (by first | exact Nat.le_refl _ | with_reducible exact HB.out.size | omega | (simp; done) | (simp; omega) | (have := HB.out.size; simp at *; omega)) _ | with_reducible refine Below.setCell ?_ (by first | exact Nat.le_refl _ | with_reducible exact HB.out.size | omega | (simp; done) | (simp; omega) | (have := HB.out.size; simp at *; omega)) _)) b)
      have HO := Lib.hid (Own.below (by repeat (first | with_reducible exact HO.out | with_reducible apply Own.drewN | with_reducible apply Own.drew | with_reducible apply Own.alloc)) b)
      have HR := Lib.hid (Rd.below (by repeat (first | with_reducible exact HR.out | with_reducible apply Rd.drewN | with_reducible apply Rd.drew | with_reducible apply Rd.alloc)) b)
      have K0 := Lib.hid (VB.below (by repeat (first | with_reducible exact K0.out | with_reducible apply VB.drewN | with_reducible apply VB.drew | with_reducible apply VB.alloc)) b)
      clear b
      generalize hSS : S + (t : Int) = SS at *
      go_wp2_with fail
      go_loopw [9, 11] (fun q i wr => ∃ (j : Nat) (Q2 : Int), j ≤ k ∧ i = .int .i64 j ∧ q = .int .i64 Q2 ∧ Hid (Q2 = (psW l (L.take k) + smW l x (L.take j) : Nat)) ∧ Hid (Own wr w.heap.size (.slice (some ⟨b, o, none⟩) m cr) L) ∧ Hid (Below w.heap.size w wr) ∧ Hid (VB wr w.heap.size 24 (fv (0, 0)))) (fun _ i _ => k - (intOf i).toNat)
      case atStart => exact ⟨0, Q, Nat.zero_le _, rfl, rfl, Lib.hid (by rw [HQk.out]; simp [smW]), HO, HB, K0⟩
      case round =>
        clear HB HO K0 HQk
        obtain ⟨j, Q2, hj, rfl, rfl, HQ2, HO, HB, K0⟩ := hrel
        by_cases hjt : j < k
        · have HRh := Lib.hid (HR0.out.below HB.out)
          obtain ⟨b1, o1, x1, he1, hb1, hx1, c0, c1, c2, c3⟩ := (Own.rd HO.out).card (k := k) (by rw [HMl.out]; exact hlt)
          rw [HX.out] at hx1
          injection hx1 with hx1
          subst hx1
          injection he1 with he1
          injection he1 with e1 e2
          subst e1; subst e2
          obtain ⟨b2, o2, y, he2, hb2, hy, d0, d1, d2, d3⟩ := (Own.rd HO.out).card (k := j) (by rw [HMl.out]; omega)
          injection he2 with he2
          injection he2 with e1 e2
          subst e1; subst e2
          have hyo := ok_at HLo.out hy
          have n0 : (0 : Int) ≤ (j : Int) := by omega
          have n1 : (j : Int) < (k : Int) := by omega
          have n2 : (j : Int) < (m : Int) := by omega
          have hst := smW_take (l := l) (z := x) hy
          have hq1 := HPb.out k
          have hq2 := HWb.out x j
          have hQ2 := HQ2.out
          have u0 : 0 ≤ Q2 := by omega
          have u1 : Q2 ≤ 10000 := by omega
          have HTd := Lib.hid (fun w => l2_third x y w HXo.out hyo)
          have HHs := fun w' (hr : Rd w' p (flat l)) => l2_has l (third x y) p n c w' HN.out (by omega) hr HKok.out (third_ok x y) HSrt.out
          obtain ⟨bb, hbb⟩ : ∃ bb, there l (third x y) = bb := ⟨_, rfl⟩
          rw [hbb] at HHs
          have hwn : wn l x y = nat bb := by unfold wn; rw [hbb]
          rw [hwn] at hst
          have HHs := Lib.hid HHs
          have HQn : Hid (Q2 + (nat bb : Int) = (psW l (L.take k) + smW l x (L.take (j + 1)) : Nat)) := Lib.hid (by omega)
          clear hst hq1 hq2 hQ2 hy hyo hbb hwn HQ2
          go_upto_region 14 with fail
          refine region_seq [0, 1, 2, 3, 4, 5, 6, 7, 8] [9, 10] (by kernel_rfl) (by kernel_rfl) rfl (by kernel_rfl) (fun w' => BI wr w') (fun w' h => h) ?_
          refine j_pure 50 (v := .slice p n c) rfl rfl rfl (fun w => by kernel_rfl) ?_
          refine j_pure 51 (v := .slice (some ⟨b, o, none⟩) m cr) rfl rfl rfl (fun w => by kernel_rfl) ?_
          refine j_pure 52 (v := .int .i64 k) rfl rfl rfl (fun w => by kernel_rfl) ?_
          refine j_pure 53 (v := .pointer (some ⟨b, o + k * 4, none⟩)) rfl rfl rfl (exec_indexS (n := m) (cp := cr) hlt rfl (by kernel_rfl) (by kernel_rfl)) ?_
          refine j_card 54 (g := b) (off := o + k * 4) rfl rfl rfl _ rfl (by kernel_rfl) x (fun w' h => ⟨(Below.cell h (p := ⟨b, o + k * 4, none⟩) hb1).trans c0, (Below.cell h (p := ⟨b, o + k * 4 + 1, none⟩) hb1).trans c1, (Below.cell h (p := ⟨b, o + k * 4 + 2, none⟩) hb1).trans c2, (Below.cell h (p := ⟨b, o + k * 4 + 3, none⟩) hb1).trans c3⟩) ?_
          refine j_pure 55 (v := .slice (some ⟨b, o, none⟩) m cr) rfl rfl rfl (fun w => by kernel_rfl) ?_
          refine j_pure 56 (v := .int .i64 j) rfl rfl rfl (fun w => by kernel_rfl) ?_
          refine j_pure 57 (v := .pointer (some ⟨b, o + j * 4, none⟩)) rfl rfl rfl (exec_indexS (n := m) (cp := cr) (by omega) rfl (by kernel_rfl) (by kernel_rfl)) ?_
          refine j_card 58 (g := b) (off := o + j * 4) rfl rfl rfl _ rfl (by kernel_rfl) y (fun w' h => ⟨(Below.cell h (p := ⟨b, o + j * 4, none⟩) hb2).trans d0, (Below.cell h (p := ⟨b, o + j * 4 + 1, none⟩) hb2).trans d1, (Below.cell h (p := ⟨b, o + j * 4 + 2, none⟩) hb2).trans d2, (Below.cell h (p := ⟨b, o + j * 4 + 3, none⟩) hb2).trans d3⟩) ?_
          intro wa hI
          refine u_call (f := 59) (args := #[x.val, y.val]) rfl rfl (by kernel_rfl) ((HTd.out wa).mono ?_)
          rintro e wb ⟨rfl, bt⟩
          have hI2 := BI.next hI bt
          refine ⟨_, rfl, hI2, ?_⟩
          refine u_call (f := 58) (args := #[.slice p n c, (third x y).val]) rfl rfl (by kernel_rfl) ((HHs.out wb (HRh.out.below hI2)).mono ?_)
          rintro e wc ⟨rfl, bh⟩
          have hI3 := BI.next hI2 bh
          refine ⟨_, rfl, hI3, ?_⟩
          simp only [runsU, List.getElem_toArray, List.getElem_cons_succ, List.getElem_cons_zero, Act.put, List.setIfInBounds_toArray, List.set_cons_zero, List.set_cons_succ]
          have HO := Lib.hid (HO.out.below hI3)
          have K0 := Lib.hid (K0.out.below hI3)
          have HB := Lib.hid (HB.out.trans (Below.mono hI3 HB.out.size))
          clear hI hI2 hI3 bt bh c0 c1 c2 c3 d0 d1 d2 d3
          cases bb
          · have HQ3 : Hid (Q2 = (psW l (L.take k) + smW l x (L.take (j + 1)) : Nat)) := Lib.hid (by rw [← HQn.out]; simp [nat])
            go_wp2_with fail
            go_roundw
            case rel => exact ⟨j + 1, Q2, by omega, by go_num, rfl, HQ3, HO, HB, K0⟩
            case measure => simp [intOf]; omega
          · have HQ3 : Hid (Q2 + 1 = (psW l (L.take k) + smW l x (L.take (j + 1)) : Nat)) := Lib.hid (by rw [← HQn.out]; simp [nat])
            go_wp2_with fail
            go_roundw
            case rel => exact ⟨j + 1, Q2 + 1, by omega, by go_num, rfl, HQ3, HO, HB, K0⟩
            case measure => simp [intOf]; omega
        · have hjk : j = k := by omega
          subst hjk
          have HQ3 : Hid (Q2 = (psW l (L.take (j + 1)) : Nat)) := Lib.hid (by rw [HQ2.out, psW_take HX.out])
          go_wp2_with fail
          go_roundw
          case rel => exact ⟨j + 1, SS, Q2, by omega, by go_num, rfl, rfl, HSn, HQ3, HO, HB, K0⟩
          case measure => simp [intOf]; omega
    · have hkm : k = m := by omega
      subst hkm
      rw [List.take_of_length_le (by rw [HMl.out]; exact Nat.le_refl _)] at HS HQk
      have hS := HS.out
      have hQk := HQk.out
      obtain ⟨q1, q2, q3, q4, q5, q6, q7⟩ := HQ.out
      rcases hM with hM | hM
      · subst hM
        have hC0 := HC1.out
        obtain ⟨P, hP⟩ : ∃ P : Int, (m0 : Int) * (k : Int) = P := ⟨_, rfl⟩
        have hPn : P = ((m0 * k : Nat) : Int) := by rw [← hP, Int.natCast_mul]
        have e1 : ((m0 * k + sa l L : Nat) : Int) = P + S := by omega
        rw [e1] at hC0
        have b1 : 0 ≤ P ∧ P ≤ 59049 := by omega
        have b2 : 0 ≤ S ∧ S ≤ 2187 := by omega
        have w1 : IntKind.i64.wrap P = P := IntWalk.i64_in _ (by omega)
        have w2 : IntKind.i64.wrap (P + S) = P + S := IntWalk.i64_in _ (by omega)
        have b3 : P + S ≤ 100000 := by omega
        have hme := HM1.out
        obtain ⟨fr, hfr⟩ : ∃ fr, frac (m0 * k + sa l L) k = fr := ⟨_, rfl⟩
        rw [hfr] at hme hC0
        have HMe := Lib.hid hme
        have hC := Lib.hid hC0
        clear hme hfr hC0
        clear hS hQk q1 q2 q3 q4 q5 q6 q7 hPn e1 HC1 HC2 HM1 HM2
        go_wp2_with fail
        refine ((hC.out _)).mono ?_
        rintro e w6 ⟨rfl, b⟩
        have Sw6 := Lib.hid b.size
        have HB := Lib.hid (chain0 (w := w) (by repeat (first | with_reducible exact Below.refl _ _ | with_reducible exact HB.out | with_reducible apply Below.drew | with_reducible apply bdN | with_reducible refine Below.alloc ?_ (by first | exact Nat.le_refl _ | with_reducible exact HB.out.size | omega | (simp; done) | (simp; omega) | (have := HB.out.size; simp at *; omega)) _ | with_reducible refine Below.setCell ?_ (by first | exact Nat.le_refl _ | with_reducible exact HB.out.size | omega | (simp; done) | (simp; omega) | (have := HB.out.size; simp at *; omega)) _)) b)
        have K0 := Lib.hid (VB.below (by repeat (first | with_reducible exact K0.out | with_reducible apply VB.drewN | with_reducible apply VB.drew | with_reducible apply VB.alloc)) b)
        clear b
        go_wp2_with ((with_reducible refine store_a2 rfl _ _ rfl K0.out ?_ fr ?_ ?_); rfl; rfl; intro w7 hM hG)
        try simp only [Exit.inBlock, Exit.then]
        refine bodyPost_ret (res_vb2 Try.results26 rfl hM Try.underlying24 (a2_info rfl)) rfl ?_
        exact ⟨by rw [HMe.out]; rfl, HB.out.grown hG HB.out.size (fun k hk => by injection hk with hk; omega)⟩
      · subst hM
        have hC := HC2.out
        have hCh := HCh.out
        have hme := HM2.out
        obtain ⟨fr, hfr⟩ : ∃ fr, frac (m0 * cho k 2 + sa l L * (k - 1) + psW l L) (cho k 2) = fr := ⟨_, rfl⟩
        rw [hfr] at hC hme
        have HMe := Lib.hid hme
        clear hme hfr
        generalize cho k 2 = D at *
        obtain ⟨P, hP⟩ : ∃ P : Int, (m0 : Int) * (D : Int) = P := ⟨_, rfl⟩
        obtain ⟨R, hR⟩ : ∃ R : Int, S * ((k : Int) - 1) = R := ⟨_, rfl⟩
        have hPn : P = ((m0 * D : Nat) : Int) := by rw [← hP, Int.natCast_mul]
        have hRn : R = ((sa l L * (k - 1) : Nat) : Int) := by rw [← hR, hS, Int.natCast_mul, Int.ofNat_sub (by omega)]; rfl
        have e1 : ((m0 * D + sa l L * (k - 1) + psW l L : Nat) : Int) = P + R + Q := by omega
        rw [e1] at hC
        have b1 : 0 ≤ P ∧ P ≤ 10000000 := by omega
        have b2 : 0 ≤ R ∧ R ≤ 10000000 := by omega
        have b4 : 0 ≤ Q ∧ Q ≤ 10000 := by omega
        have w1 : IntKind.i64.wrap P = P := IntWalk.i64_in _ (by omega)
        have w2 : IntKind.i64.wrap R = R := IntWalk.i64_in _ (by omega)
        have w3 : IntKind.i64.wrap (P + R) = P + R := IntWalk.i64_in _ (by omega)
        have w4 : IntKind.i64.wrap (P + R + Q) = P + R + Q := IntWalk.i64_in _ (by omega)
        have b5 : P + R ≤ 100000000 := by omega
        have b6 : P + R + Q ≤ 100000000 := by omega
        have b7 : (k : Int) ≤ 81 := by omega
        have b8 : 54 ≤ (k : Int) := by omega
        have hC := Lib.hid hC
        have hCh := Lib.hid hCh
        clear hS hQk q1 q2 q3 q4 q5 q6 q7 hPn hRn e1 HC1 HC2 HM1 HM2
        go_wp2_with fail
        refine ((hCh.out _)).mono ?_
        rintro e w6 ⟨rfl, b⟩
        have Sw6 := Lib.hid b.size
        have HB := Lib.hid (chain0 (w := w) (by repeat (first | with_reducible exact Below.refl _ _ | with_reducible exact HB.out | with_reducible apply Below.drew | with_reducible apply bdN | with_reducible refine Below.alloc ?_ (by first | exact Nat.le_refl _ | with_reducible exact HB.out.size | omega | (simp; done) | (simp; omega) | (have := HB.out.size; simp at *; omega)) _ | with_reducible refine Below.setCell ?_ (by first | exact Nat.le_refl _ | with_reducible exact HB.out.size | omega | (simp; done) | (simp; omega) | (have := HB.out.size; simp at *; omega)) _)) b)
        have K0 := Lib.hid (VB.below (by repeat (first | with_reducible exact K0.out | with_reducible apply VB.drewN | with_reducible apply VB.drew | with_reducible apply VB.alloc)) b)
        clear b
        go_wp2_with fail
        refine ((hC.out _)).mono ?_
        rintro e w7 ⟨rfl, b⟩
        have Sw7 := Lib.hid b.size
        have HB := Lib.hid (chain0 (w := w) (by repeat (first | with_reducible exact Below.refl _ _ | with_reducible exact HB.out | with_reducible apply Below.drew | with_reducible apply bdN | with_reducible refine Below.alloc ?_ (by first | exact Nat.le_refl _ | with_reducible exact HB.out.size | omega | (simp; done) | (simp; omega) | (have := HB.out.size; simp at *; omega)) _ | with_reducible refine Below.setCell ?_ (by first | exact Nat.le_refl _ | with_reducible exact HB.out.size | omega | (simp; done) | (simp; omega) | (have := HB.out.size; simp at *; omega)) _)) b)
        have K0 := Lib.hid (VB.below (by repeat (first | with_reducible exact K0.out | with_reducible apply VB.drewN | with_reducible apply VB.drew | with_reducible apply VB.alloc)) b)
        clear b
        go_wp2_with ((with_reducible refine store_a2 rfl _ _ rfl K0.out ?_ fr ?_ ?_); rfl; rfl; intro w8 hM hG)
        try simp only [Exit.inBlock, Exit.then]
        refine bodyPost_ret (res_vb2 Try.results26 rfl hM Try.underlying24 (a2_info rfl)) rfl ?_
        exact ⟨by rw [HMe.out]; rfl, HB.out.grown hG HB.out.size (fun k hk => by injection hk with hk; omega)⟩

theorem spec_ma (l : List Cd) (N : Int) (p : Option Addr) (n c : Nat) (w : World) (hn : l.length = n) (hl : n ≤ 1000000000) (hr : Rd w p (flat l)) (hcp : n ≤ c) :
    Calls Try.prog 26 #[.slice p n c, .int .i64 N] w fun e w' => e = .returned (.tuple #[.agg (fv (maR l N).1), .bool (maR l N).2]) ∧ Below w.heap.size w w' := by
  cases hh : handB l
  · rw [maR_no (by simp [hh])]
    exact spec_ma_no l N p n c w hn hl hr (.inl hh)
  · rcases (show (N < 0 ∨ 2 < N) ∨ N = 0 ∨ N = 1 ∨ N = 2 by omega) with h | rfl | rfl | rfl
    · rw [maR_no (by omega)]
      exact spec_ma_no l N p n c w hn hl hr (.inr h)
    · have h := maR_0 hh
      rw [show ((0 : Nat) : Int) = 0 from rfl] at h
      rw [h]
      exact spec_ma_0 l p n c w hn hl hr hh
    · exact spec_ma_12 l 1 p n c w hn hl hr hh (.inl rfl)
    · exact spec_ma_12 l 2 p n c w hn hl hr hh (.inr rfl)
end Go.Proofs.Ytcedbhgjabheaaa.chance

