/- ParseHand: the program's. -/
import Derived.Test.YtjanphcfflahkaaU7
import Derived.Test.YtjanphcfflahkaaRx
import Derived.Test.YtjanphcfflahkaaAp
import Derived.RangeFuncNested
import Derived.RangeFuncBound
import Derived.RangeFuncCalls
import Derived.Maps.OwnIn
import Derived.Deep.DeepMust
import Derived.Deep.AppendLies
namespace Go.Proofs.Ytjanphcfflahkaa.cards
open Go.RowKit Go.Shelf
attribute [local go_sem] Oper.semAt_some
set_option linter.unusedVariables false

theorem str_empty {s : ByteArray} (h : s.size = 0) : s.toList.isEmpty = true := by
  rw [ByteArray.toList_eq]
  have : s.data.toList.length = 0 := by simpa using h
  rw [List.length_eq_zero_iff.1 this]; rfl
theorem str_some {s : ByteArray} (h : s.size ≠ 0) : s.toList.isEmpty = false := by
  rw [ByteArray.toList_eq]
  cases hl : s.data.toList with
  | nil =>
    have : s.data.toList.length = 0 := by rw [hl]; rfl
    exact absurd (by simpa using this) h
  | cons _ _ => rfl
/-- What the two result cells hold is what is handed back. -/
theorem res_cells {tmps : Array Value} {W : World} {g1 g2 : Nat} {p : Option Addr} {n c : Nat} {b : Bool} (e1 : tmps[2]?.getD undef = .pointer (some ⟨g1, 0, none⟩)) (e2 : tmps[3]?.getD undef = .pointer (some ⟨g2, 0, none⟩))
    (c1 : W.cell? ⟨g1, 0, none⟩ = some (.slice p n c)) (c2 : W.cell? ⟨g2, 0, none⟩ = some (.bool b)) : (results Try.f23 tmps).run Try.prog W = .ok (.tuple #[.slice p n c, .bool b]) W := by
  simp [results, Try.results23, go_sem, e1, e2, c1, c2]
theorem hteC : 29 ≠ 22 := by decide
theorem keeps_below {W w' : World} (h : Below W.heap.size W w') : KeepsOthers W w' := ⟨h.size, fun k o hk _ => (h.block k (Array.getElem?_eq_some_iff.1 hk).1).trans hk⟩

theorem end_short (w : World) (b : Bool) (W : World) (hW : W = ((w.alloc (.cells #[.slice (some ⟨w.heap.size + 1 + 1, 0, none⟩) 0 0] 29)).alloc (.cells #[.bool b] 4)).alloc (.cells #[] 22)) :
    W.cell? ⟨w.heap.size, 0, none⟩ = some (.slice (some ⟨w.heap.size + 1 + 1, 0, none⟩) 0 0) ∧ W.cell? ⟨w.heap.size + 1, 0, none⟩ = some (.bool b) ∧ cards.Own W w.heap.size (.slice (some ⟨w.heap.size + 1 + 1, 0, none⟩) 0 0) [] ∧ Below w.heap.size w W := by
  subst hW
  refine ⟨?_, ?_, ?_, ?_⟩
  · rw [World.cell?_alloc_past _ _ _ (by simp; omega), World.cell?_alloc_past _ _ _ (by simp), World.cell?_alloc_at _ _ _ _ (by simp)]; rfl
  · rw [World.cell?_alloc_past _ _ _ (by simp), World.cell?_alloc_at _ _ _ _ (by simp)]; rfl
  · have h := Own.empty ((w.alloc (.cells #[.slice (some ⟨w.heap.size + 1 + 1, 0, none⟩) 0 0] 29)).alloc (.cells #[.bool b] 4)) w.heap.size (by simp; omega)
    simpa using h
  · exact ((((Below.refl _ w).alloc (Nat.le_refl _) _).alloc (by simp) _).alloc (by simp; omega) _)

set_option maxRecDepth 100000 in
set_option maxHeartbeats 2000000 in
theorem ph_short (s : ByteArray) (w : World) (h : s.size = 0) :
    Calls Try.prog 23 #[.string s] w fun e w' => ∃ v, e = .returned (.tuple #[v, .bool (phR s).2]) ∧ cards.Own w' w.heap.size v (phR s).1 ∧ Below w.heap.size w w' := by
  have HT := Lib.hid (ph_empty h)
  have he := str_empty h
  rw [HT.out]
  clear h
  go_enter Try.func23, Try.ntmps23
  go_wp2_with fail
  obtain ⟨c1, c2, ho, hb⟩ := end_short w true _ rfl
  exact bodyPost_ret (res_cells rfl rfl c1 c2) rfl ⟨_, rfl, ho, hb⟩
theorem ph_big (s : ByteArray) (w : World) (h : 134 < s.size) (hs : s.size ≤ 1048576) :
    Calls Try.prog 23 #[.string s] w fun e w' => ∃ v, e = .returned (.tuple #[v, .bool (phR s).2]) ∧ cards.Own w' w.heap.size v (phR s).1 ∧ Below w.heap.size w w' := by
  have HT := Lib.hid (ph_long h)
  have he := str_some (s := s) (by omega)
  rw [HT.out]
  go_enter Try.func23, Try.ntmps23
  go_wp2_with fail
  obtain ⟨c1, c2, ho, hb⟩ := end_short w false _ rfl
  exact bodyPost_ret (res_cells rfl rfl c1 c2) rfl ⟨_, rfl, ho, hb⟩

/-- The state of the rounds: what the box of the hand holds, what the cells of the results and the iterator's boxes hold. -/
def PI (B : Nat) (s : ByteArray) (pre : List ByteArray) (W : World) : Prop :=
  rdAll pre = true ∧ (∃ v, Boxed W (B + 3) 29 v ∧ W.ownsRow B 22 4 v pre.length (flat (rdL pre)) ∧ True) ∧ Boxed W B 29 (.slice none 0 0) ∧ Boxed W (B + 1) 4 (.bool false) ∧ Boxed W (B + 4) 9 (.string s) ∧ Boxed W (B + 5) 5 (.int .u8 32)
theorem pi_own (B : Nat) (s : ByteArray) : Go.Own (PI B s) := fun pre X Y row h hg hr =>
  ⟨h.1, holdsRow_own B (B + 3) 29 22 4 (fun pre : List ByteArray => pre.length) (fun pre => flat (rdL pre)) (fun _ _ => True) pre X Y row h.2.1 hg hr,
    boxed_own (β := List ByteArray) B 29 (fun _ => .slice none 0 0) pre X Y row h.2.2.1 hg hr, boxed_own (β := List ByteArray) (B + 1) 4 (fun _ => .bool false) pre X Y row h.2.2.2.1 hg hr,
    boxed_own (β := List ByteArray) (B + 4) 9 (fun _ => .string s) pre X Y row h.2.2.2.2.1 hg hr, boxed_own (β := List ByteArray) (B + 5) 5 (fun _ => .int .u8 32) pre X Y row h.2.2.2.2.2 hg hr⟩
/-- What has been written when a part is no card's text. -/
def PX (B : Nat) (c : Code) (pre : List ByteArray) (W : World) : Prop :=
  (c = .ret ∧ rdAll pre = false) ∧ (∃ v, Boxed W B 29 v ∧ W.ownsRow B 22 4 v 0 [] ∧ True) ∧ Boxed W (B + 1) 4 (.bool false)
theorem px_own (B : Nat) (c : Code) : Go.Own (PX B c) := fun s X Y row h hg hr =>
  ⟨h.1, holdsRow_own B B 29 22 4 (fun _ : List ByteArray => 0) (fun _ => []) (fun _ _ => True) s X Y row h.2.1 hg hr, boxed_own (β := List ByteArray) (B + 1) 4 (fun _ => .bool false) s X Y row h.2.2 hg hr⟩
theorem bad_all {l pre : List ByteArray} (h : pre <+: l) (hx : rdAll pre = false) : rdAll l = false := by
  obtain ⟨r, hr⟩ := h
  rw [← hr, rdAll, List.all_append]
  rw [rdAll] at hx
  rw [hx]; rfl
theorem box_thru {W w1 : World} {n₀ Bx B3 k : Nat} {t : TypeId} {v0 v v' : Value} {xs : List Value} {tmp : Obj} (h : Boxed W Bx t v0) (hte : t ≠ 22) (hrow : W.ownsRow n₀ 22 4 v k xs) (hg : (W.alloc tmp).grownBy w1 v.ownBlock) (hne : Bx ≠ B3) : Boxed (w1.setCell ⟨B3, 0, none⟩ v') Bx t v0 :=
  ((h.alloc tmp).kept hg (h.not_row hte hrow)).other hne v'
theorem box_below {W W1 : World} {Bx : Nat} {t : TypeId} {v : Value} (h : Boxed W Bx t v) (hb : Below W.heap.size W W1) : Boxed W1 Bx t v := (hb.block Bx h.lt).trans h
/-- Both result cells are written. -/
theorem two_set {W1 : World} {B : Nat} {v0 : Value} {b : Bool} (v' : Value) (b' : Bool) (q1 : Boxed W1 B 29 v0) (q2 : Boxed W1 (B + 1) 4 (.bool b)) :
    ∃ X, (W1.setCell ⟨B, 0, none⟩ v').setCell ⟨B + 1, 0, none⟩ (.bool b') = X ∧ Boxed X B 29 v' ∧ Boxed X (B + 1) 4 (.bool b') ∧ X.heap.size = W1.heap.size ∧ KeepsOthers W1 X ∧ Below B W1 X ∧ (∀ l v, cards.Own W1 B v l → cards.Own X B v l) := by
  refine ⟨_, rfl, (q1.set _).other (by omega) _, (q2.other (by omega) _).set _, by simp, (KeepsOthers.setCell _ _ _).trans (KeepsOthers.setCell _ _ _), ((Below.refl _ _).setCell (p := ⟨B, 0, none⟩) (Nat.le_refl _) _).setCell (p := ⟨B + 1, 0, none⟩) (by show B ≤ B + 1; omega) _, fun l v h => ?_⟩
  have h2 : (W1.setCell ⟨B, 0, none⟩ v').ownsRow B 22 4 v l.length (flat l) := World.ownsRow.kept h (grownBy_setCell' W1 B v') (.inr (q1.not_row hteC h).symm)
  exact h2.kept (grownBy_setCell' _ _ _) (.inr ((q2.other (by omega) v').not_row (by decide) h2).symm)
/-- The end: what the result cells hold is handed back behind the rounds' book-keeping. -/
theorem ret_ph {W w : World} {D : Nat} {v : Value} {b : Bool} {l : List Cd} {tmps : Array Value} (e1 : tmps[2]?.getD undef = .pointer (some ⟨w.heap.size, 0, none⟩)) (e2 : tmps[3]?.getD undef = .pointer (some ⟨w.heap.size + 1, 0, none⟩))
    (h1 : Boxed W w.heap.size 29 v) (h2 : Boxed W (w.heap.size + 1) 4 (.bool b)) (hO : cards.Own W w.heap.size v l) (hK : W.heap[D]? = some (.deferred (some []))) (hD : w.heap.size + 1 < D) (hb : Below w.heap.size w W) :
    ∃ q, (results Try.f23 tmps).run Try.prog (W.putObj D (.deferred none)) = .ok q (W.putObj D (.deferred none)) ∧ ∃ v, Ending.returned q = .returned (.tuple #[v, .bool b]) ∧ cards.Own (W.putObj D (.deferred none)) w.heap.size v l ∧ Below w.heap.size w (W.putObj D (.deferred none)) := by
  obtain ⟨p, c, rfl, -, -⟩ := hO.form
  have g1 := h1.kept (grownBy_putObj' W D (.deferred none)) (by simp; omega)
  have g2 := h2.kept (grownBy_putObj' W D (.deferred none)) (by simp; omega)
  refine ⟨_, res_cells e1 e2 g1.cell g2.cell, _, rfl, ?_, hb.trans (belowK_b (w := w) (Nat.le_refl _) W D _ _ (by omega) hK rfl rfl)⟩
  exact ownsRow_putObj hO _ hK rfl
/-- One card is appended, inside a fence. -/
theorem appendIn_cd {F : Fence} {n : Nat} {ops : Array Oper} {rest : List Oper} {o : Oper} {a : Act} {Q : Exit → Act → World → Prop} (hgd : o.guard = none) (s x : Operand)
    (ho : o.op = .call { callee := .builtin .append, args := #[s, x], argTypes := #[29, 29] }) (B : Nat) (v : Value) (l : List Cd) (q : Cd) (W : World) (g : Nat) (hg : W.heap.size = g)
    (hs : a.eval s = v) (hx : a.eval x = .slice (some ⟨g, 0, none⟩) 1 1) (hO : cards.Own W B v l) (hl : l.length ≤ 1000000000) (hB : B ≤ W.heap.size)
    (h : ∀ v' w', cards.Own w' B v' (l ++ [q]) → (W.alloc q.obj).grownBy w' v.ownBlock → wpListIn F n Try.prog ops Q rest (a.put o.dst v') w') : wpListIn F n Try.prog ops Q (o :: rest) a (W.alloc q.obj) := by
  subst hg
  obtain ⟨i, hi, hz, hsz, hb⟩ := info_parts a4info
  refine wpListIn_append_own (P := Try.prog) (W.alloc q.obj) hgd s x 29 ho B 22 i (.agg #[.int .i64 0, .int .i64 0, .int .i64 0, .int .i64 0]) 4 32 Try.underlying29 hi hz hsz hb rfl (by decide) v l.length (flat l) hs (hO.alloc _) ⟨W.heap.size, 0, none⟩ 1 1 q.cells hx rfl ?_ ?_ ?_ ?_ ?_ ?_
  · intro j u hu
    have hj : j < 4 := by have := (List.getElem?_eq_some_iff.1 hu).1; simpa [Cd.cells] using this
    have hadd : (⟨W.heap.size, 0, none⟩ : Addr).add j = ⟨W.heap.size, j, none⟩ := by
      unfold Addr.add; split <;> simp_all
    rw [hadd, cell_of_row _ _ j _ _ _ (heap_alloc_new W _)]
    rw [← hu]; simp [Cd.cells]
  · intro u hu; simp [Cd.cells] at hu; rcases hu with rfl | rfl | rfl | rfl <;> rfl
  · simp only [maxLen]; omega
  · omega
  · have : (W.alloc q.obj).heap.size = W.heap.size + 1 := by simp
    omega
  · intro v' w' h1 h2 _
    refine h v' w' ?_ h2
    show w'.ownsRow _ _ _ _ _ _
    rw [List.length_append]
    have e : flat (l ++ [q]) = flat l ++ q.cells := by simp [flat]
    rw [e]; exact h1
theorem own4_row {w : World} {B : Nat} {v : Value} {l : List Cd} {x : Cd} (h : cards.Own w B v (l ++ [x])) : w.ownsRow B 22 4 v (l.length + 1) (flat (l ++ [x])) := by
  unfold cards.Own at h
  rw [List.length_append] at h
  exact h
theorem own_row {w : World} {B : Nat} {v : Value} {pre : List ByteArray} : w.ownsRow B 22 4 v pre.length (flat (rdL pre)) ↔ cards.Own w B v (rdL pre) := by
  unfold cards.Own
  rw [rdL_len]

set_option maxRecDepth 100000 in
set_option maxHeartbeats 8000000 in
theorem ph_loop (s : ByteArray) (w : World) (h0 : s.size ≠ 0) (h1 : s.size ≤ 134) :
    Calls Try.prog 23 #[.string s] w fun e w' => ∃ v, e = .returned (.tuple #[v, .bool (phR s).2]) ∧ cards.Own w' w.heap.size v (phR s).1 ∧ Below w.heap.size w w' := by
  have he := str_some h0
  have hsz : decide (134 < (s.size : Int)) = false := by simp; omega
  have HH := Lib.hid h0
  have HB1 := Lib.hid h1
  have HP := Lib.hid (fun s w => parse_card s w)
  clear h0
  refine (callsIn_wide (n := 3)).1 ?_
  refine callsIn_of_wp_marks Try.func23 rfl trivial ?_ rfl
  simp only [Try.ntmps23, List.size_toArray, List.length_cons, List.length_nil, Nat.reduceAdd, Nat.reduceSub, Array.replicate_succ, Array.replicate_zero, List.push_toArray, List.append_toArray, List.nil_append, List.cons_append]
  gi_wp2_with fail
  refine ⟨trivial, ?_⟩
  refine (iter2.of_in 2 s 32 _).mono ?_
  rintro e w' ⟨rfl, rfl⟩
  gi_wp2_with fail
  obtain ⟨W0, hW0⟩ : ∃ W0, (((((w.alloc (.cells #[.slice none 0 0] 29)).alloc (.cells #[.bool false] 4)).alloc (.cells #[] 22)).alloc (.cells #[.slice (some ⟨w.heap.size + 2, 0, none⟩) 0 0] 29)).alloc (.cells #[.string s] 9)).alloc (.cells #[.int .u8 32] 5) = W0 := ⟨_, rfl⟩
  have hsize : W0.heap.size = w.heap.size + 6 := by rw [← hW0]; simp
  have hI0 : PI w.heap.size s [] W0 := by
    refine ⟨rfl, ⟨.slice (some ⟨w.heap.size + 2, 0, none⟩) 0 0, ?_, ?_, trivial⟩, ?_, ?_, ?_, ?_⟩
    · rw [← hW0]
      have h := Boxed.new (((w.alloc (.cells #[.slice none 0 0] 29)).alloc (.cells #[.bool false] 4)).alloc (.cells #[] 22)) 29 (.slice (some ⟨w.heap.size + 2, 0, none⟩) 0 0)
      simp only [World.size_alloc] at h
      exact (h.alloc _).alloc _
    · rw [← hW0]
      have h := World.ownsRow_made (e := 22) (size := 4) ((w.alloc (.cells #[.slice none 0 0] 29)).alloc (.cells #[.bool false] 4)) #[] 0 (show w.heap.size ≤ _ by simp; omega) (by unfold maxLen; omega) rfl
      simp only [World.size_alloc] at h
      exact ((h.alloc _).alloc _).alloc _
    · rw [← hW0]
      exact (((((Boxed.new w 29 (.slice none 0 0)).alloc _).alloc _).alloc _).alloc _).alloc _
    · rw [← hW0]
      have h := Boxed.new (w.alloc (.cells #[.slice none 0 0] 29)) 4 (.bool false)
      simp only [World.size_alloc] at h
      exact (((h.alloc _).alloc _).alloc _).alloc _
    · rw [← hW0]
      have h := Boxed.new ((((w.alloc (.cells #[.slice none 0 0] 29)).alloc (.cells #[.bool false] 4)).alloc (.cells #[] 22)).alloc (.cells #[.slice (some ⟨w.heap.size + 2, 0, none⟩) 0 0] 29)) 9 (.string s)
      simp only [World.size_alloc] at h
      exact h.alloc _
    · rw [← hW0]
      have h := Boxed.new (((((w.alloc (.cells #[.slice none 0 0] 29)).alloc (.cells #[.bool false] 4)).alloc (.cells #[] 22)).alloc (.cells #[.slice (some ⟨w.heap.size + 2, 0, none⟩) 0 0] 29)).alloc (.cells #[.string s] 9)) 5 (.int .u8 32)
      simp only [World.size_alloc] at h
      exact h
  have hB0 : Below w.heap.size w W0 := by
    rw [← hW0]
    exact ((((((Below.refl _ w).alloc (Nat.le_refl _) _).alloc (by simp) _).alloc (by simp; omega) _).alloc (by simp; omega) _).alloc (by simp; omega) _).alloc (by simp; omega) _
  rw [hW0]
  clear hW0
  refine wpIn_rangeFunc_ownG (F := Fence.wide) rfl (by omega) (gf := 102) (lb := #[.pointer (some ⟨w.heap.size + 4, 0, none⟩), .pointer (some ⟨w.heap.size + 5, 0, none⟩)]) rfl trivial (enters_of Try.func102 (by kernel_rfl) rfl)
    (iter2.stops 2 (by omega) (w.heap.size + 4) (w.heap.size + 5) s 32 (by have := HB1.out; omega) W0 (by omega) (by omega) hI0.2.2.2.2.1.cell hI0.2.2.2.2.2.cell) iter2.Two.trans (fun W l o o' hl _ _ _ => iter2.Two.put o' (by omega) (by omega)) (Below.refl _ _) (fun _ => rfl)
    (fun pre W => PI w.heap.size s pre W ∧ Below w.heap.size W0 W)
    (fun c pre W => PX w.heap.size c pre W ∧ Below w.heap.size W0 W)
    (OwnFrom.and (Own.from (pi_own _ _) _) (ownFrom_below (by omega) (by omega)))
    (fun c => OwnFrom.and (Own.from (px_own _ _) _) (ownFrom_below (by omega) (by omega)))
    ⟨hI0, Below.refl _ _⟩
    (fun x => { tmps := #[.string s, undef, .pointer (some ⟨w.heap.size, 0, none⟩), .pointer (some ⟨w.heap.size + 1, 0, none⟩), .pointer (some ⟨w.heap.size + 3, 0, none⟩), .string x, undef, undef, .string s, .bool false, undef, .string s, .int .i64 s.size, .bool false, undef, .slice (some ⟨w.heap.size + 2, 0, none⟩) 0 0, .string s, .int .u8 32, .func (.func 102) #[] #[.pointer (some ⟨w.heap.size + 4, 0, none⟩), .pointer (some ⟨w.heap.size + 5, 0, none⟩)], .string x, undef, undef, undef, undef, undef, undef, undef, undef, undef, undef, undef, undef, undef, undef, undef, undef, undef], defers := [] }) ?assign ?body ?done ?stop
  case assign =>
    intro l x W K hK
    gi_wp2
    exact hK
  case body =>
    rintro l pre x W ⟨⟨hrd, ⟨v, hv, hrow, -⟩, hr1, hr2, hs4, hs5⟩, hB⟩ hlt
    have HC := Lib.hid (HP.out x W)
    obtain ⟨y, hy⟩ : ∃ y, (readC x).1 = y := ⟨_, rfl⟩
    obtain ⟨ok, hok⟩ : ∃ ok, (readC x).2 = ok := ⟨_, rfl⟩
    rw [hy, hok] at HC
    have HOk := Lib.hid hok
    have HY := Lib.hid hy
    clear hy hok
    have hlW := hr2.lt
    have hl3 := hv.lt
    have hl5 := hs5.lt
    cases ok
    · gi_wp2_with (refine ⟨trivial, ?_⟩; refine (CallsIn.inRound l ((callsIn_wide (n := _)).2 HC.out)).mono ?_; rintro e W1 ⟨rfl, hb1⟩; have q1 := box_below hr1 hb1; have q2 := box_below hr2 hb1; have q1c := q1.cell; have q1f := q1.frozen; have q2c := q2.cell; have q2f := q2.frozen; have q1l := q1.lt; have q2l := q2.lt)
      obtain ⟨X, hX, x1, x2, xs, xk, xb, -⟩ := two_set (.slice (some ⟨W1.heap.size + 1, 0, none⟩) 0 0) false q1 q2
      have HO := World.ownsRow_made (e := 22) (size := 4) (X.alloc y.obj) #[] 0 (show w.heap.size ≤ _ by simp; omega) (by unfold maxLen; omega) rfl
      simp only [World.size_alloc, xs] at HO
      rw [hX]
      refine ⟨KeepsOthers.from ((keeps_below hb1).trans (xk.trans ((KeepsOthers.alloc _ _).trans (KeepsOthers.alloc _ _)))) _, ⟨⟨rfl, ?_⟩, ⟨_, (x1.alloc _).alloc _, HO, trivial⟩, (x2.alloc _).alloc _⟩, ?_⟩
      · exact bad_pre (List.prefix_refl _) HOk.out
      · exact (((hB.trans (hb1.mono (by omega))).trans xb).alloc (by omega) _).alloc (by simp; omega) _
    · have hsz1 := hB.size
      have qL : (rdL pre).length ≤ 1000000000 := by rw [rdL_len]; omega
      have hlx : ∀ W1 : World, (W1.alloc y.obj).heap.size = W1.heap.size + 1 := fun W1 => World.size_alloc _ _
      gi_wp2_with (first
        | (refine ⟨trivial, ?_⟩; refine (CallsIn.inRound l ((callsIn_wide (n := _)).2 HC.out)).mono ?_; rintro e W1 ⟨rfl, hb1⟩; have q3 := box_below hv hb1; have q3c := q3.cell; have q3l := q3.lt; have hz := hb1.size; have qO := ((own_row.1 hrow).below hb1).alloc y.obj)
        | (gi_at_builtin; refine appendIn_cd (n := 1) (F := Fence.wide.inRound l) rfl (.tmp 28) (.tmp 30) rfl w.heap.size v (rdL pre) y (W1.alloc y.obj) (W1.heap.size + 1) (hlx W1) rfl rfl qO qL (by rw [hlx]; omega) ?_; intro v' w1 hown' hgrow; obtain ⟨hv1, hv2, hrw, hk2, hb2⟩ := (q3.alloc y.obj).appended hteC qO (by rw [hlx]; omega) (by omega) (own4_row hown') hgrow; obtain ⟨g', cap', rfl⟩ := ownsRow_succ (own4_row hown'); have hc1 := hv1.cell; have hf1 := hv1.frozen)
        | fail)
      have th := fun (Bx : Nat) (t : TypeId) (v0 : Value) (h : Boxed W Bx t v0) (hte : t ≠ 22) (hne : Bx ≠ w.heap.size + 3) (v' : Value) => box_thru (v' := v') ((box_below h hb1).alloc y.obj) hte qO hgrow hne
      have r4 := th _ _ _ hs4 (by decide) (by omega) (.slice (some ⟨g', 0, none⟩) ((rdL pre).length + 1) cap')
      have r5 := th _ _ _ hs5 (by decide) (by omega) (.slice (some ⟨g', 0, none⟩) ((rdL pre).length + 1) cap')
      refine ⟨((keeps_below hb1).trans ((KeepsOthers.alloc _ _).trans hk2)).from _, ⟨?_, ?_⟩, ⟨?_, ⟨_, hv2, ?_, trivial⟩, th _ _ _ hr1 hteC (by omega) _, th _ _ _ hr2 (by decide) (by omega) _, r4, r5⟩, ?_⟩
      · exact r4.cell.trans hs4.cell.symm
      · exact r5.cell.trans hs5.cell.symm
      · exact rd_more hrd HOk.out
      · rw [rdL_app, HY.out, List.length_append, ← rdL_len pre]
        exact hrw
      · exact ((hB.trans (hb1.mono (by omega))).alloc (by omega) _).trans hb2
  case done =>
    rintro D ys W hD rfl ⟨⟨hrd, ⟨v, hv, hrow, -⟩, hr1, hr2, hs4, hs5⟩, hB⟩ hK
    have hO := own_row.1 hrow
    obtain ⟨p, c, rfl, hcap, hR, -⟩ := hO.form
    have hlen : (rdL (cut.parts s 32)).length ≤ 1000000000 := by rw [rdL_len]; have := cut.parts_len s 32; omega
    have HI := Lib.hid (is_hand (rdL (cut.parts s 32)) p _ c W rfl hlen hR)
    have hvc := hv.cell
    have hDl := (Array.getElem?_eq_some_iff.1 hK).1
    have HO := Lib.hid hO
    have HRd := Lib.hid hrd
    clear hR hO hrow hcap hlen hrd
    cases hh : handB (rdL (cut.parts s 32))
    · have HT := Lib.hid (ph_no HH.out hh)
      rw [hh] at HI
      obtain ⟨L, hL⟩ : ∃ L, rdL (cut.parts s 32) = L := ⟨_, rfl⟩
      rw [hL] at HI HO hv hvc
      clear hh hL
      gi_wp2_with (refine ⟨trivial, ?_⟩; refine ((callsIn_wide (n := _)).2 HI.out).mono ?_; rintro e W1 ⟨rfl, hb1⟩; have q1 := box_below hr1 hb1; have q2 := box_below hr2 hb1; have q1c := q1.cell; have q1f := q1.frozen; have q2c := q2.cell; have q2f := q2.frozen; have q1l := q1.lt; have q2l := q2.lt)
      obtain ⟨X, hX, x1, x2, xs, xk, xb, -⟩ := two_set (.slice (some ⟨W1.heap.size, 0, none⟩) 0 0) false q1 q2
      have HO2 := World.ownsRow_made (e := 22) (size := 4) X #[] 0 (show w.heap.size ≤ _ by omega) (by unfold maxLen; omega) rfl
      rw [xs] at HO2
      have HO3 : cards.Own (X.alloc (.cells #[] 22)) w.heap.size (.slice (some ⟨W1.heap.size, 0, none⟩) 0 0) [] := HO2
      rw [hX]
      have hK2 : (X.alloc (.cells #[] 22)).heap[D]? = some (.deferred (some [])) := ((KeepsOthers.alloc _ _).same _ _ (xk.same _ _ ((hb1.block D hDl).trans hK) rfl) rfl)
      refine ⟨by simp, .inl ⟨_, _, rfl, run_takeDeferred hK2, ?_⟩⟩
      have h := fun tmps e1 e2 => ret_ph (tmps := tmps) e1 e2 (x1.alloc _) (x2.alloc _) HO3 hK2 (by omega) ((((hB0.trans hB).trans (hb1.mono (by omega))).trans xb).alloc (by omega) _)
      rw [HT.out]
      exact h _ rfl rfl
    · have HT := Lib.hid (ph_yes HH.out (by have := HB1.out; omega) HRd.out hh)
      rw [hh] at HI
      obtain ⟨L, hL⟩ : ∃ L, rdL (cut.parts s 32) = L := ⟨_, rfl⟩
      rw [hL] at HI HO hv hvc HT
      clear hh hL
      gi_wp2_with (refine ⟨trivial, ?_⟩; refine ((callsIn_wide (n := _)).2 HI.out).mono ?_; rintro e W1 ⟨rfl, hb1⟩; have q1 := box_below hr1 hb1; have q2 := box_below hr2 hb1; have q1c := q1.cell; have q1f := q1.frozen; have q2c := q2.cell; have q2f := q2.frozen; have q1l := q1.lt; have q2l := q2.lt; have q3 := box_below hv hb1; have q3c := q3.cell; have q3l := q3.lt)
      obtain ⟨X, hX, x1, x2, xs, xk, xb, xo⟩ := two_set (.slice p L.length c) true q1 q2
      have HO3 := xo _ _ (HO.out.below hb1)
      rw [hX]
      have hK2 : X.heap[D]? = some (.deferred (some [])) := xk.same _ _ ((hb1.block D hDl).trans hK) rfl
      refine ⟨by simp, .inl ⟨_, _, rfl, run_takeDeferred hK2, ?_⟩⟩
      have h := fun tmps e1 e2 => ret_ph (tmps := tmps) e1 e2 x1 x2 HO3 hK2 (by omega) (((hB0.trans hB).trans (hb1.mono (by omega))).trans xb)
      rw [HT.out]
      exact h _ rfl rfl
  case stop =>
    rintro D c pre W hD hSp ⟨⟨⟨rfl, hbad⟩, ⟨v, hv, hrow, -⟩, h2⟩, hB⟩ hK
    have HT := Lib.hid (ph_bad HH.out (bad_all hSp hbad))
    have HO3 : cards.Own W w.heap.size v [] := hrow
    gi_wp2
    refine ⟨by simp, .inl ⟨_, _, rfl, run_takeDeferred hK, ?_⟩⟩
    have h := fun tmps e1 e2 => ret_ph (tmps := tmps) e1 e2 hv h2 HO3 hK (by omega) (hB0.trans hB)
    rw [HT.out]
    exact h _ rfl rfl
theorem impl_ph (s : ByteArray) (w : World) (hs : s.size ≤ 1048576) :
    Calls Try.prog 23 #[.string s] w fun e w' => ∃ v, e = .returned (.tuple #[v, .bool (phR s).2]) ∧ cards.Own w' w.heap.size v (phR s).1 ∧ Below w.heap.size w w' := by
  by_cases h0 : s.size = 0
  · exact ph_short s w h0
  · by_cases h1 : 134 < s.size
    · exact ph_big s w h1 hs
    · exact ph_loop s w h0 (by omega)
end Go.Proofs.Ytjanphcfflahkaa.cards
