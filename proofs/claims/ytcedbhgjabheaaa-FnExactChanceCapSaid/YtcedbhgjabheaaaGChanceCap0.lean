/- Merged texts: Vb, Vc, Vg, Gi, No, Gh, Ki, Gr, Gs, Sh, Kj, Kk, G1a, G1b. -/
import Derived.Test.YtcedbhgjabheaaaPs
import Derived.Test.YtcedbhgjabheaaaCt
import Derived.Test.YtcedbhgjabheaaaPw
import Derived.Lib.SliceRun
import Derived.Test.YtcedbhgjabheaaaAn
import Derived.Test.YtcedbhgjabheaaaIs
import Derived.Test.YtcedbhgjabheaaaNm
import Derived.IntWalk
import Derived.Test.YtcedbhgjabheaaaGm
import Derived.Test.YtcedbhgjabheaaaAt
import Derived.Deep.RegionHeld3
import Derived.Test.YtcedbhgjabheaaaGn
import Derived.Test.YtcedbhgjabheaaaCq
/- What may turn behind a visit: more lemmas. -/
namespace Go.Proofs.Ytcedbhgjabheaaa.cards
open Go.RowKit
set_option linter.unusedVariables false

theorem Turn.then_ {S T : Nat → Prop} {w a b : World} (h : Turn S w a) (k : Turn T a b) (hT : ∀ j, j < w.heap.size → T j → S j) : Turn S w b :=
  ⟨k.os.trans h.os, k.tape.trans h.tape, k.output.trans h.output, Nat.le_trans h.size k.size, fun j hj hs => (k.block j (Nat.lt_of_lt_of_le hj h.size) (fun ht => hs (hT j hj ht))).trans (h.block j hj hs)⟩
theorem Turn.and_below {S : Nat → Prop} {w a b : World} (h : Turn S w a) (k : Below a.heap.size a b) : Turn S w b := h.then_ (Turn.of_below k) (fun _ _ h => h.elim)
/-- The elder slice reads as before, when the longer one reads as before. -/
theorem OwnI.back {a b : World} {B g m c g' m' c' : Nat} {ps : List Int} {q : Int} {T : Nat → Prop} (h1 : OwnI a B (.slice (some ⟨g, 0, none⟩) m c) ps) (h2 : OwnI a B (.slice (some ⟨g', 0, none⟩) m' c') (ps ++ [q])) (h3 : OwnI b B (.slice (some ⟨g', 0, none⟩) m' c') (ps ++ [q])) (ht : Turn T a b) (hg : g ≠ g' → ¬ T g) (hm : ps.length = m) :
    OwnI b B (.slice (some ⟨g, 0, none⟩) m c) ps := by
  by_cases e : g = g'
  · subst e
    obtain ⟨l1, ⟨x, _⟩ | ⟨g1, cap1, cur1, e1, hB1, hg1, hn1, hc1, hs1, ht1⟩⟩ := h1
    · simp at x
    obtain ⟨l2, ⟨x, _⟩ | ⟨g2, cap2, cur2, e2, hB2, hg2, hn2, hc2, hs2, ht2⟩⟩ := h2
    · simp at x
    obtain ⟨l3, ⟨x, _⟩ | ⟨g3, cap3, cur3, e3, hB3, hg3, hn3, hc3, hs3, ht3⟩⟩ := h3
    · simp at x
    injection e1 with e1 _ e1c
    injection e1 with e1
    injection e1 with e1
    injection e2 with e2 _ e2c
    injection e2 with e2
    injection e2 with e2
    injection e3 with e3 _ e3c
    injection e3 with e3
    injection e3 with e3
    subst e1; subst e2; subst e3
    rw [hg1] at hg2
    injection hg2 with hg2
    injection hg2 with hg2
    subst hg2
    have hcc : cap1 = cap3 := by omega
    refine ⟨l1, .inr ⟨_, cap1, cur3, by rw [e1c, hm], hB1, hg3, hn1, hc1, by rw [hs3, hcc], ?_⟩⟩
    have h5 := congrArg (List.take (ps.length * 1)) ht3
    rw [List.take_take] at h5
    have e5 : ints (ps ++ [q]) = ints ps ++ [.int .i64 q] := by simp [ints]
    have hR : List.take (ps.length * 1) (ints ps ++ [.int .i64 q]) = ints ps := by rw [Nat.mul_one, ← ints_len ps, List.take_left]
    have hmin : min (ps.length * 1) ((ps ++ [q]).length * 1) = ps.length * 1 := by rw [List.length_append]; omega
    rw [e5, hR, hmin] at h5
    exact h5
  · exact ht.ownI h1 (fun k hk => by
      have : g = k := by simpa [Value.ownBlock] using hk
      rw [← this]; exact hg e)
end Go.Proofs.Ytcedbhgjabheaaa.cards

/- The visits of all caps, with impl.CountCaps$1. -/
namespace Go.Proofs.Ytcedbhgjabheaaa.cards
open Go.RowKit
set_option linter.unusedVariables false

end Go.Proofs.Ytcedbhgjabheaaa.cards

/- The visits of all caps, with impl.greatestIn$1. -/
namespace Go.Proofs.Ytcedbhgjabheaaa.cards
open Go.RowKit
set_option linter.unusedVariables false

end Go.Proofs.Ytcedbhgjabheaaa.cards

/- greatestIn: what the closure does, and all visits. -/
namespace Go.Proofs.Ytcedbhgjabheaaa.cards
open Go.RowKit
set_option linter.unusedVariables false

theorem ints_one : ∀ (l : List Int), ∀ u ∈ ints l, u.oneCell' = true := fun l u h => by
  obtain ⟨x, _, rfl⟩ := List.mem_map.1 h
  rfl
/-- All numbers of another slice are appended. -/
theorem append_ints {ops : Array Oper} {rest : List Oper} {o : Oper} {a : Act} {Q : Exit → Act → World → Prop} (hgd : o.guard = none) (s x : Operand)
    (ho : o.op = .call { callee := .builtin .append, args := #[s, x], argTypes := #[49, 49] }) (B : Nat) (v : Value) (l l2 : List Int) (g m c : Nat) (W : World)
    (hs : a.eval s = v) (hx : a.eval x = .slice (some ⟨g, 0, none⟩) m c) (hO : OwnI W B v l) (hm : l2.length = m) (hR : Rd W (some ⟨g, 0, none⟩) (ints l2)) (hl : l.length + m ≤ 1000000000) (hB : B ≤ W.heap.size)
    (h : ∀ v' w', OwnI w' B v' (l ++ l2) → (v ≠ .slice none 0 0 → v' ≠ .slice none 0 0) → Below B W w' → wpList Try.prog ops Q rest (a.put o.dst v') w') : wpList Try.prog ops Q (o :: rest) a W := by
  obtain ⟨i, hi, hz, hsz, hb⟩ := info_parts int_info
  refine wpList_append_own (P := Try.prog) W hgd s x 49 ho B 3 i (.int .i64 0) 1 8 Try.underlying49 hi hz hsz hb rfl (by decide) v l.length (ints l) hs hO ⟨g, 0, none⟩ m c (ints l2) hx (by rw [ints_len, hm]; omega) ?_ (ints_one l2) (by simp only [maxLen]; omega) (by omega) hB ?_
  · intro j u hu
    obtain ⟨b, o, e, _, hc⟩ := hR (Nat.lt_of_le_of_lt (Nat.zero_le _) (List.getElem?_eq_some_iff.1 hu).1)
    injection e with e
    injection e with e1 e2
    subst e1; subst e2
    have hadd : (⟨g, 0, none⟩ : Addr).add j = ⟨g, 0 + j, none⟩ := by unfold Addr.add; split <;> simp_all
    rw [hadd]; exact hc j u hu
  · intro v' w' h1 h2 h3
    refine h v' w' ?_ (fun hn e => hn (h3.1 e).1) ((Below.refl _ _).grown h2 hB (fun k hk => (World.ownsRow.lt hO k hk).1))
    unfold OwnI
    rw [List.length_append, hm]
    have e : ints (l ++ l2) = ints l ++ ints l2 := by simp [ints]
    rw [e]; exact h1

/-- The captured greatest one: its variable's block gv, and the slice in it. -/
def Jg (B gv : Nat) (w : World) (s : List Int) (S : Nat → Prop) : Prop := ∃ g c, w.heap[gv]? = some (.cells #[.slice (some ⟨g, 0, none⟩) s.length c] 49) ∧ OwnI w B (.slice (some ⟨g, 0, none⟩) s.length c) s ∧ B ≤ gv ∧ g ≠ gv ∧ S = (fun j => j = gv ∨ j = g)
theorem Jg.one {B gv : Nat} : ∀ w s S, Jg B gv w s S → ∀ j, S j → B ≤ j ∧ j < w.heap.size := by
  rintro w s S ⟨g, c, h1, h2, h3, h4, rfl⟩ j (rfl | rfl)
  · exact ⟨h3, (Array.getElem?_eq_some_iff.1 h1).1⟩
  · exact h2.span j rfl
theorem Jg.two {B gv : Nat} : ∀ w w' s S T, Jg B gv w s S → Turn T w w' → (∀ j, S j → ¬ T j) → Jg B gv w' s S := by
  rintro w w' s S T ⟨g, c, h1, h2, h3, h4, rfl⟩ ht hd
  refine ⟨g, c, (ht.block gv (Array.getElem?_eq_some_iff.1 h1).1 (hd gv (.inl rfl))).trans h1, ht.ownI h2 (fun x hx => ?_), h3, h4, rfl⟩
  have : g = x := by simpa [Value.ownBlock] using hx
  rw [← this]; exact hd g (.inr rfl)

end Go.Proofs.Ytcedbhgjabheaaa.cards

/- The numbers of the cards of which a function value says yes. -/
namespace Go.Proofs.Ytcedbhgjabheaaa.cards
open Go.RowKit
set_option linter.unusedVariables false

theorem OwnI.base {w : World} {B B' : Nat} {v : Value} {l : List Int} (h : OwnI w B v l) (hB : B' ≤ B) : OwnI w B' v l := by
  obtain ⟨hl, h0 | ⟨g, cap, cur, e, hb, r⟩⟩ := h
  · exact ⟨hl, .inl h0⟩
  · exact ⟨hl, .inr ⟨g, cap, cur, e, Nat.le_trans hB hb, r⟩⟩
/-- A captured slice of cards: a block of one cell. -/
def BoxH (w : World) (g : Nat) (v : Value) : Prop := w.heap[g]? = some (.cells #[v] 22)
theorem BoxH.lt {w : World} {g : Nat} {v : Value} (h : BoxH w g v) : g < w.heap.size := (Array.getElem?_eq_some_iff.1 h).1
theorem BoxH.new (w : World) (v : Value) : BoxH (w.alloc (.cells #[v] 22)) w.heap.size v := heap_alloc_new w _
theorem BoxH.below {w w1 : World} {g : Nat} {v : Value} (h : BoxH w g v) (b : Below w.heap.size w w1) : BoxH w1 g v := (b.block g h.lt).trans h
theorem BoxH.alloc {w : World} {g : Nat} {v : Value} (h : BoxH w g v) (o : Obj) : BoxH (w.alloc o) g v := (Below.heap_alloc w o g h.lt).trans h
theorem BoxH.drew {w : World} {g : Nat} {v : Value} (h : BoxH w g v) : BoxH w.drew g v := h
theorem BoxH.drewN {w : World} {g : Nat} {v : Value} (h : BoxH w g v) (n : Nat) : BoxH (w.drewN n) g v := h
theorem BoxH.cell {w : World} {g : Nat} {v : Value} (h : BoxH w g v) : w.cell? ⟨g, 0, none⟩ = some v := (cell_of_row w g 0 _ _ _ h).trans rfl
end Go.Proofs.Ytcedbhgjabheaaa.cards

/- GreatestCap and FewestDrops: the program. -/
namespace Go.Proofs.Ytcedbhgjabheaaa.cards
open Go.RowKit
set_option linter.unusedVariables false

noncomputable def poolB (l : List Cd) : Bool := handB l && decide (l.length ≤ 15)
noncomputable def bestR (l : List Cd) : List Int × Bool := if poolB l = true then (best l, true) else ([], false)
noncomputable def fewR (l : List Cd) : Int × Bool := if poolB l = true then ((l.length : Int) - (best l).length, true) else (0, false)
theorem poolB_iff {l : List Cd} : poolB l = true ↔ handB l = true ∧ l.length ≤ 15 := by unfold poolB; simp
theorem bestR_len (l : List Cd) : (bestR l).1.length ≤ 1000 := by
  unfold bestR
  split
  · rename_i h
    have h1 := (poolB_iff.1 h).2
    have h2 := best_len l
    show (best l).length ≤ _
    omega
  · simp

set_option maxRecDepth 100000 in
set_option maxHeartbeats 2000000 in
theorem is_pool (l : List Cd) (p : Option Addr) (n cp : Nat) (w : World) (hn : l.length = n) (hl : n ≤ 1000000000) (hr : Rd w p (flat l)) :
    Calls Try.prog 65 #[.slice p n cp] w fun e w' => e = .returned (.bool (poolB l)) ∧ Below w.heap.size w w' := by
  have HN := Lib.hid hn
  have HR := Lib.hid hr
  clear hn hr
  by_cases h : n ≤ 15
  · have hd : (n : Int) ≤ 15 := by omega
    have HP := Lib.hid (show poolB l = handB l by unfold poolB; rw [HN.out, decide_eq_true h]; simp)
    go_enter Try.func65, Try.ntmps65
    go_wp2_with fail
    refine ((is_hand l p n cp _ HN.out hl (by repeat (first | with_reducible exact HR.out | with_reducible apply Rd.drewN | with_reducible apply Rd.drew | with_reducible apply Rd.alloc)))).mono ?_
    rintro e w1 ⟨rfl, b⟩
    have Sw1 := Lib.hid b.size
    have HB := Lib.hid (chain0 (w := w) (by repeat (first | with_reducible exact Below.refl _ _ | with_reducible exact HB.out | with_reducible apply Below.drew | with_reducible apply bdN | with_reducible refine Below.alloc ?_ (by first | exact Nat.le_refl _ | with_reducible exact HB.out.size | omega | (simp; done) | (simp; omega) | (have := HB.out.size; simp at *; omega)) _ | with_reducible refine Below.setCell ?_ (by first | exact Nat.le_refl _ | with_reducible exact HB.out.size | omega | (simp; done) | (simp; omega) | (have := HB.out.size; simp at *; omega)) _)) b)
    have HR := Lib.hid (Rd.below (by repeat (first | with_reducible exact HR.out | with_reducible apply Rd.drewN | with_reducible apply Rd.drew | with_reducible apply Rd.alloc)) b)
    clear b
    go_wp2_with fail
    go_ret
    exact ⟨ret_bool (by rw [HP.out]), by repeat (first | with_reducible exact Below.refl _ _ | with_reducible exact HB.out | with_reducible apply Below.drew | with_reducible apply bdN | with_reducible refine Below.alloc ?_ (by first | exact Nat.le_refl _ | with_reducible exact HB.out.size | omega | (simp; done) | (simp; omega) | (have := HB.out.size; simp at *; omega)) _ | with_reducible refine Below.setCell ?_ (by first | exact Nat.le_refl _ | with_reducible exact HB.out.size | omega | (simp; done) | (simp; omega) | (have := HB.out.size; simp at *; omega)) _)⟩
  · have hd : decide ((n : Int) ≤ 15) = false := by simp; omega
    have HP := Lib.hid (show poolB l = false by unfold poolB; rw [HN.out, decide_eq_false h]; simp)
    go_enter Try.func65, Try.ntmps65
    go_wp2_with fail
    go_ret
    exact ⟨ret_bool (by rw [HP.out]), by repeat (first | with_reducible exact Below.refl _ _ | with_reducible exact HB.out | with_reducible apply Below.drew | with_reducible apply bdN | with_reducible refine Below.alloc ?_ (by first | exact Nat.le_refl _ | with_reducible exact HB.out.size | omega | (simp; done) | (simp; omega) | (have := HB.out.size; simp at *; omega)) _ | with_reducible refine Below.setCell ?_ (by first | exact Nat.le_refl _ | with_reducible exact HB.out.size | omega | (simp; done) | (simp; omega) | (have := HB.out.size; simp at *; omega)) _)⟩

end Go.Proofs.Ytcedbhgjabheaaa.cards

/- CountCaps: what the closure does, and the program. -/
namespace Go.Proofs.Ytcedbhgjabheaaa.cards
open Go.RowKit
set_option linter.unusedVariables false

/-- One visit, as the program counts. -/
def cw (N : Int) (s : Int) (ps : List Int) : Int := if (ps.length : Int) = N then wrap64 (s + 1) else s
theorem tl_many {l : List Cd} : ∀ (d : Nat) (ps : List Int), (tl l d ps).length + 1 ≤ 2 ^ d
  | 0, ps => by simp [tl]
  | d + 1, ps => by
    have h1 := tl_many (l := l) d ps
    have h2 := tl_many (l := l) d (ps ++ [((l.length - (d + 1) : Nat) : Int)])
    rw [tl, List.length_append, Nat.pow_succ]
    split
    · rw [List.length_cons]; omega
    · simp only [List.length_nil]; omega
theorem cw_all (N : Int) : ∀ (L : List (List Int)) (s : Int), 0 ≤ s → s + (L.length : Int) ≤ 1000000 → L.foldl (cw N) s = L.foldl (cf N) s ∧ 0 ≤ L.foldl (cf N) s ∧ L.foldl (cf N) s ≤ s + (L.length : Int)
  | [], s, h0, h1 => by
    refine ⟨rfl, h0, ?_⟩
    show s ≤ s + ((0 : Nat) : Int)
    omega
  | q :: r, s, h0, h1 => by
    rw [List.length_cons] at h1
    have e : cw N s q = cf N s q := by
      unfold cw cf
      split
      · unfold wrap64; omega
      · rfl
    rw [List.foldl_cons, List.foldl_cons, e, List.length_cons]
    have hc : 0 ≤ cf N s q ∧ cf N s q ≤ s + 1 := by unfold cf; split <;> omega
    obtain ⟨h2, h3, h4⟩ := cw_all N r (cf N s q) hc.1 (by omega)
    exact ⟨h2, h3, by omega⟩
/-- How many caps with N cards there are. -/
def caps (l : List Cd) (N : Int) : Int := (tl l l.length []).foldl (cf N) (cf N 0 [])
noncomputable def capsR (l : List Cd) (N : Int) : Int × Bool := if poolB l = true ∧ 0 ≤ N ∧ N ≤ 15 then (caps l N, true) else (0, false)
theorem caps_cw {l : List Cd} {N : Int} (h : l.length ≤ 15) : (tl l l.length []).foldl (cw N) (cw N 0 []) = caps l N := by
  have h1 := tl_many (l := l) l.length []
  have h2 : 2 ^ l.length ≤ 2 ^ 15 := Nat.pow_le_pow_right (by omega) h
  have h3 := cw_all N ([] :: tl l l.length []) 0 (by omega) (by rw [List.length_cons]; omega)
  exact h3.1

/-- The variables that are captured: n in the block gn, the count in gv. -/
def Jc (B gn gv : Nat) (N : Int) (w : World) (s : Int) (S : Nat → Prop) : Prop := w.heap[gv]? = some (.cells #[.int .i64 s] 3) ∧ w.heap[gn]? = some (.cells #[.int .i64 N] 3) ∧ B ≤ gv ∧ B ≤ gn ∧ gn ≠ gv ∧ S = (fun j => j = gv ∨ j = gn)
theorem Jc.one {B gn gv : Nat} {N : Int} : ∀ w s S, Jc B gn gv N w s S → ∀ j, S j → B ≤ j ∧ j < w.heap.size := by
  rintro w s S ⟨h1, h2, h3, h4, h5, rfl⟩ j (rfl | rfl)
  · exact ⟨h3, (Array.getElem?_eq_some_iff.1 h1).1⟩
  · exact ⟨h4, (Array.getElem?_eq_some_iff.1 h2).1⟩
theorem Jc.two {B gn gv : Nat} {N : Int} : ∀ w w' s S T, Jc B gn gv N w s S → Turn T w w' → (∀ j, S j → ¬ T j) → Jc B gn gv N w' s S := by
  rintro w w' s S T ⟨h1, h2, h3, h4, h5, rfl⟩ ht hd
  exact ⟨(ht.block gv (Array.getElem?_eq_some_iff.1 h1).1 (hd gv (.inl rfl))).trans h1, (ht.block gn (Array.getElem?_eq_some_iff.1 h2).1 (hd gn (.inr rfl))).trans h2, h3, h4, h5, rfl⟩

end Go.Proofs.Ytcedbhgjabheaaa.cards

/- GreedyCap: the program and the model alike. -/
namespace Go.Proofs.Ytcedbhgjabheaaa.cards
open Go.RowKit
set_option linter.unusedVariables false

noncomputable def greedyR (l : List Cd) : List Int × Bool := if handB l = true then (gr l l.length, true) else ([], false)
theorem greedyR_len (l : List Cd) : (greedyR l).1.length ≤ 1000 := by
  unfold greedyR
  split
  · rename_i h
    have h1 := (handB_true.1 h).1
    have h2 := gr_len l l.length (Nat.le_refl _)
    show (gr l l.length).length ≤ _
    omega
  · simp
theorem thr_zero {l : List Cd} {c : Cd} {n : Nat} (h : ¬ 0 < thr l c n) : thr l c n = 0 := by have := (thr_bd l c n).1; omega

end Go.Proofs.Ytcedbhgjabheaaa.cards

/- GreedyCap: the model. -/
namespace Go.Proofs.Ytcedbhgjabheaaa.cards
open Go.RowKit
set_option linter.unusedVariables false

set_option maxRecDepth 100000 in
set_option maxHeartbeats 4000000 in
theorem l3_picked (l : List Cd) (ps : List Int) (p q : Option Addr) (n cp m cq : Nat) (w : World) (hn : l.length = n) (hl : n ≤ 1000) (hm : ps.length = m) (hml : m ≤ 1000) (hr : Rd w p (flat l)) (hq : Rd w q (ints ps)) (hin : ∀ i ∈ ps, 0 ≤ i ∧ i < l.length) :
    Calls Try.prog 97 #[.slice p n cp, .slice q m cq] w fun e w' => ∃ u, e = .returned u ∧ Own w' w.heap.size u (pick l ps) ∧ Below w.heap.size w w' := by
  have HN := Lib.hid hn
  have HM := Lib.hid hm
  have HR0 := Lib.hid hr
  have HQ0 := Lib.hid hq
  have HI := Lib.hid hin
  clear hn hm hr hq hin
  go_enter Try.func97, Try.ntmps97
  go_wp2_with fail
  go_loopw [5, 6] (fun o i wr => ∃ k : Nat, k ≤ m ∧ i = .int .i64 k ∧ Hid (Own wr w.heap.size o (pick l (ps.take k))) ∧ Hid (Below w.heap.size w wr)) (fun _ i _ => m - (intOf i).toNat)
  case atStart => exact ⟨0, Nat.zero_le _, rfl, Lib.hid (Own.empty w w.heap.size (Nat.le_refl _)), Lib.hid (by repeat (first | with_reducible exact Below.refl _ _ | with_reducible exact HB.out | with_reducible apply Below.drew | with_reducible apply bdN | with_reducible refine Below.alloc ?_ (by first | exact Nat.le_refl _ | with_reducible exact HB.out.size | omega | (simp; done) | (simp; omega) | (have := HB.out.size; simp at *; omega)) _ | with_reducible refine Below.setCell ?_ (by first | exact Nat.le_refl _ | with_reducible exact HB.out.size | omega | (simp; done) | (simp; omega) | (have := HB.out.size; simp at *; omega)) _))⟩
  case round =>
    obtain ⟨k, hk, rfl, HO, HB⟩ := hrel
    by_cases hlt : k < m
    · have HR := Lib.hid (HR0.out.below HB.out)
      obtain ⟨b2, o2, pi, rfl, hb2, hpi, d0⟩ := (HQ0.out.below HB.out).int (k := k) (by rw [HM.out]; exact hlt)
      obtain ⟨i0, i1⟩ := HI.out pi (List.mem_of_getElem? hpi)
      obtain ⟨j, rfl⟩ : ∃ j : Nat, pi = (j : Int) := ⟨pi.toNat, by omega⟩
      have hjn : j < n := by have := HN.out; omega
      obtain ⟨b, o, x, rfl, hb, hx, c0, c1, c2, c3⟩ := HR.out.card (k := j) (by rw [HN.out]; exact hjn)
      have HE := Lib.hid (pick_take_snoc (l := l) hpi (by simpa using hx))
      have HL := Lib.hid (Nat.le_trans (pick_len l (ps.take k)) (by rw [List.length_take]; exact Nat.min_le_left _ _))
      have m0 : (0 : Int) ≤ (k : Int) := by omega
      have m1 : (k : Int) < (m : Int) := by omega
      have m2 : (0 : Int) ≤ (j : Int) := by omega
      have m3 : (j : Int) < (n : Int) := by omega
      clear hpi hx i0 i1
      go_wp2_with (at_builtin; refine append_cd rfl (.tmp 14) (.tmp 22) rfl w.heap.size _ (pick l (ps.take k)) x _ _ rfl rfl rfl HO.out (by have := HL.out; omega) HB.out.size ?_; intro v1 w4 hO1 hB1)
      rw [← HE.out] at hO1
      go_roundw
      case rel => exact ⟨k + 1, by omega, by go_num, hO1, HB.out.trans hB1⟩
      case measure => simp [intOf]; omega
    · obtain rfl : k = m := by omega
      have HE := Lib.hid (show ps.take k = ps by rw [← HM.out, List.take_length])
      go_wp2_with fail
      go_ret
      exact ⟨_, rfl, by rw [HE.out] at HO; exact HO.out, HB.out⟩

end Go.Proofs.Ytcedbhgjabheaaa.cards

/- GreatestCap and FewestDrops: the model's search. -/
namespace Go.Proofs.Ytcedbhgjabheaaa.cards
open Go.RowKit
set_option linter.unusedVariables false

theorem sr_go {l : List Cd} {ps b : List Int} {k d : Nat} (hk : l.length = k + (d + 1)) (hb : b.length < ps.length + (d + 1)) : sr l (d + 1) ps b = sr l d ps (if fits l ps k = true then gf b (sr l d (ps ++ [(k : Int)]) (ps ++ [(k : Int)])) else b) := by
  have e : l.length - (d + 1) = k := by omega
  rw [sr, e, if_pos hb]
theorem sr_stop {l : List Cd} {ps b : List Int} {d : Nat} (hb : ¬ b.length < ps.length + (d + 1)) : sr l (d + 1) ps b = b := by rw [sr, if_neg hb]
theorem sr_len {l : List Cd} {d N : Nat} {ps b : List Int} (hd : d ≤ l.length) (hb : b.length ≤ N) (hp : ps.length + d ≤ N) : (sr l d ps b).length ≤ N := by
  rw [sr_all d ps b hd]
  exact foldl_len _ _ _ hb (fun q hq => by have := (tl_len d ps q hq).1; omega)

set_option maxRecDepth 100000 in
set_option maxHeartbeats 2000000 in
theorem l1_own (ps : List Int) (g m c : Nat) (w : World) (hm : ps.length = m) (hl : m ≤ 1000000) (hr : Rd w (some ⟨g, 0, none⟩) (ints ps)) :
    Calls Try.prog 98 #[.slice (some ⟨g, 0, none⟩) m c] w fun e w' => ∃ u, e = .returned u ∧ OwnI w' w.heap.size u ps ∧ Below w.heap.size w w' := by
  have HM := Lib.hid hm
  have HR := Lib.hid hr
  have HO := Lib.hid (OwnI.empty w w.heap.size (Nat.le_refl _))
  have HB0 : Hid (Below w.heap.size w (w.alloc (.cells #[] 3))) := Lib.hid ((Below.refl _ _).alloc (Nat.le_refl _) _)
  clear hm hr
  go_enter Try.func98, Try.ntmps98
  go_wp2_with (at_builtin; refine append_ints rfl (.tmp 3) (.tmp 4) rfl w.heap.size (.slice (some ⟨w.heap.size, 0, none⟩) 0 0) [] ps g m c _ rfl rfl HO.out HM.out (HR.out.alloc _) (by simp; omega) HB0.out.size ?_; intro v1 w1 hO1 hN1 hB1)
  go_ret
  exact ⟨_, rfl, hO1, HB0.out.trans hB1⟩

set_option maxRecDepth 100000 in
set_option maxHeartbeats 2000000 in
theorem l3_pool (l : List Cd) (p : Option Addr) (n cp : Nat) (w : World) (hn : l.length = n) (hl : n ≤ 1000000000) (hr : Rd w p (flat l)) :
    Calls Try.prog 63 #[.slice p n cp] w fun e w' => e = .returned (.bool (poolB l)) ∧ Below w.heap.size w w' := by
  have HN := Lib.hid hn
  have HR := Lib.hid hr
  clear hn hr
  go_enter Try.func63, Try.ntmps63
  go_wp2_with fail
  refine ((l2_hand l p n cp _ HN.out hl (by repeat (first | with_reducible exact HR.out | with_reducible apply Rd.drewN | with_reducible apply Rd.drew | with_reducible apply Rd.alloc)))).mono ?_
  rintro e w1 ⟨rfl, b⟩
  have Sw1 := Lib.hid b.size
  have HB := Lib.hid (chain0 (w := w) (by repeat (first | with_reducible exact Below.refl _ _ | with_reducible exact HB.out | with_reducible apply Below.drew | with_reducible apply bdN | with_reducible refine Below.alloc ?_ (by first | exact Nat.le_refl _ | with_reducible exact HB.out.size | omega | (simp; done) | (simp; omega) | (have := HB.out.size; simp at *; omega)) _ | with_reducible refine Below.setCell ?_ (by first | exact Nat.le_refl _ | with_reducible exact HB.out.size | omega | (simp; done) | (simp; omega) | (have := HB.out.size; simp at *; omega)) _)) b)
  have HR := Lib.hid (Rd.below (by repeat (first | with_reducible exact HR.out | with_reducible apply Rd.drewN | with_reducible apply Rd.drew | with_reducible apply Rd.alloc)) b)
  clear b
  cases hh : handB l
  · have HP := Lib.hid (show poolB l = false by unfold poolB; rw [hh]; rfl)
    go_wp2_with fail
    go_ret
    exact ⟨ret_bool (by rw [HP.out]), by repeat (first | with_reducible exact Below.refl _ _ | with_reducible exact HB.out | with_reducible apply Below.drew | with_reducible apply bdN | with_reducible refine Below.alloc ?_ (by first | exact Nat.le_refl _ | with_reducible exact HB.out.size | omega | (simp; done) | (simp; omega) | (have := HB.out.size; simp at *; omega)) _ | with_reducible refine Below.setCell ?_ (by first | exact Nat.le_refl _ | with_reducible exact HB.out.size | omega | (simp; done) | (simp; omega) | (have := HB.out.size; simp at *; omega)) _)⟩
  · by_cases h : n ≤ 15
    · have hd : (n : Int) ≤ 15 := by omega
      have HP := Lib.hid (show poolB l = true by unfold poolB; rw [HN.out, decide_eq_true h, hh]; rfl)
      go_wp2_with fail
      go_ret
      exact ⟨ret_bool (by rw [HP.out]), by repeat (first | with_reducible exact Below.refl _ _ | with_reducible exact HB.out | with_reducible apply Below.drew | with_reducible apply bdN | with_reducible refine Below.alloc ?_ (by first | exact Nat.le_refl _ | with_reducible exact HB.out.size | omega | (simp; done) | (simp; omega) | (have := HB.out.size; simp at *; omega)) _ | with_reducible refine Below.setCell ?_ (by first | exact Nat.le_refl _ | with_reducible exact HB.out.size | omega | (simp; done) | (simp; omega) | (have := HB.out.size; simp at *; omega)) _)⟩
    · have hd : decide ((n : Int) ≤ 15) = false := by simp; omega
      have HP := Lib.hid (show poolB l = false by unfold poolB; rw [HN.out, decide_eq_false h]; simp)
      go_wp2_with fail
      go_ret
      exact ⟨ret_bool (by rw [HP.out]), by repeat (first | with_reducible exact Below.refl _ _ | with_reducible exact HB.out | with_reducible apply Below.drew | with_reducible apply bdN | with_reducible refine Below.alloc ?_ (by first | exact Nat.le_refl _ | with_reducible exact HB.out.size | omega | (simp; done) | (simp; omega) | (have := HB.out.size; simp at *; omega)) _ | with_reducible refine Below.setCell ?_ (by first | exact Nat.le_refl _ | with_reducible exact HB.out.size | omega | (simp; done) | (simp; omega) | (have := HB.out.size; simp at *; omega)) _)⟩

end Go.Proofs.Ytcedbhgjabheaaa.cards

/- CountCaps: the program's walk, and the model's count. -/
namespace Go.Proofs.Ytcedbhgjabheaaa.cards
open Go.RowKit
set_option linter.unusedVariables false

theorem capsR_no {l : List Cd} {N : Int} (h : ¬ (poolB l = true ∧ 0 ≤ N ∧ N ≤ 15)) : capsR l N = (0, false) := by unfold capsR; rw [if_neg h]
theorem capsR_yes {l : List Cd} {N : Int} (h : poolB l = true) (h0 : 0 ≤ N) (h1 : N ≤ 15) : capsR l N = (caps l N, true) := by unfold capsR; rw [if_pos ⟨h, h0, h1⟩]

end Go.Proofs.Ytcedbhgjabheaaa.cards

/- CountCaps: the model's count. -/
namespace Go.Proofs.Ytcedbhgjabheaaa.cards
open Go.RowKit
set_option linter.unusedVariables false

def lc (l : List Cd) (d : Nat) (ps : List Int) (r : Nat) : Int := if r = 0 then 1 else lp l d ps r
theorem lp_le {l : List Cd} : ∀ (d : Nat) (ps : List Int) (m : Nat), lp l d ps m ≤ ((2 ^ d : Nat) : Int)
  | 0, _, _ => by simp [lp]
  | d + 1, ps, m => by
    have h1 := lp_le (l := l) d ps m
    have h2 := lp_le (l := l) d (ps ++ [((l.length - (d + 1) : Nat) : Int)]) (m - 1)
    have h3 : 1 ≤ 2 ^ d := Nat.one_le_two_pow
    rw [lp, Nat.pow_succ]
    split <;> (try split) <;> omega
theorem lc_bd {l : List Cd} (d : Nat) (ps : List Int) (r : Nat) (hd : d ≤ 15) : 0 ≤ lc l d ps r ∧ lc l d ps r ≤ 32768 := by
  have h1 := lp_le (l := l) d ps r
  have h2 := lp_nonneg (l := l) d ps r
  have h3 : 2 ^ d ≤ 2 ^ 15 := Nat.pow_le_pow_right (by omega) hd
  unfold lc
  split <;> omega
theorem lp_go {l : List Cd} {ps : List Int} {k d r : Nat} (hk : l.length = k + (d + 1)) (h : fits l ps k = true) : lp l (d + 1) ps (r + 1) = lc l d (ps ++ [(k : Int)]) r + lp l d ps (r + 1) := by
  rw [lp_yes hk h]
  unfold lc
  by_cases hr : r = 0
  · subst hr; rfl
  · rw [if_neg hr, if_neg (show ¬ r + 1 = 1 by omega), Nat.add_sub_cancel]
theorem caps_lc {l : List Cd} (N : Nat) : caps l (N : Int) = lc l l.length [] N := by
  unfold caps lc
  by_cases h : N = 0
  · subst h
    rw [if_pos rfl]
    have e : cf ((0 : Nat) : Int) 0 [] = 1 := rfl
    rw [e]
    exact cf_long 0 (by simp) 1
  · rw [if_neg h]
    have e : cf (N : Int) 0 [] = 0 := by unfold cf; rw [if_neg (by simp; omega)]
    rw [e, cf_all N l.length [] 0 (Nat.le_refl _) (by simp; omega)]
    simp

set_option maxRecDepth 100000 in
set_option maxHeartbeats 8000000 in
theorem l3_count (l : List Cd) (p : Option Addr) (n cp : Nat) (hn : l.length = n) (hl : n ≤ 15) (hok : l.all Cd.ok = true) (hs : sorted l) :
    ∀ (d k : Nat) (K : Int) (ps : List Int) (g m c r : Nat) (R : Int) (w : World), K = (k : Int) → R = (r : Int) → r ≤ 15 → n = k + d → ps.length = m → Good l ps k → Rd w p (flat l) → Rd w (some ⟨g, 0, none⟩) (ints ps) →
      Calls Try.prog 64 #[.slice p n cp, .slice (some ⟨g, 0, none⟩) m c, .int .i64 K, .int .i64 R] w fun e w' => e = .returned (.int .i64 (lc l d ps r)) ∧ Below w.heap.size w w' := by
  have HN := Lib.hid hn
  have HK := Lib.hid hok
  have HS := Lib.hid hs
  clear hn hok hs
  intro d
  induction d using Nat.strongRecOn with
  | ind d ih =>
  intro k K ps g m c r R w hK hRr hr15 hd hm hG hR hV
  have IH := Lib.hid ih
  have HG := Lib.hid hG
  have HM := Lib.hid hm
  have HR0 := Lib.hid hR
  have HV0 := Lib.hid hV
  have HNK := Lib.hid hd
  have hkn : k ≤ n := by omega
  have hmk : m ≤ k := by have := hG.le; omega
  clear ih hG hm hR hV hd
  subst hK
  cases r with
  | zero =>
    obtain rfl : R = 0 := by simpa using hRr
    clear hRr hr15
    go_enter Try.func64, Try.ntmps64
    go_wp2_with fail
    go_ret
    exact ⟨rfl, Below.refl _ _⟩
  | succ r =>
  have ht0 := lc_bd (l := l) d ps (r + 1) (by have := HNK.out; omega)
  obtain ⟨t, htg⟩ : ∃ t, lc l d ps (r + 1) = t := ⟨_, rfl⟩
  rw [htg] at ht0 ⊢
  have HT : Hid (lp l d ps (r + 1) = t) := Lib.hid (by rw [← htg]; unfold lc; rw [if_neg (by omega)])
  obtain ⟨t0, t1⟩ := ht0
  have r1 : 1 ≤ R := by omega
  have r2 : R ≤ 15 := by omega
  have hrb : (R == 0) = false := beq_eq_false_iff_ne.2 (by omega)
  have HRr := Lib.hid hRr
  clear htg hRr
  go_enter Try.func64, Try.ntmps64
  go_wp2_with fail
  go_loopw [9, 10] (fun u i wr => ∃ (j : Nat) (s : Int), k ≤ j ∧ j ≤ n ∧ i = .int .i64 j ∧ u = .int .i64 s ∧ 0 ≤ s ∧ s ≤ 32768 ∧ Hid (s + lp l (n - j) ps (r + 1) = t) ∧ Hid (Below w.heap.size w wr)) (fun _ i _ => n - (intOf i).toNat)
  case atStart => exact ⟨k, 0, Nat.le_refl _, hkn, rfl, rfl, by omega, by omega, Lib.hid (by rw [show n - k = d by have := HNK.out; omega, HT.out]; omega), Lib.hid (Below.refl _ _)⟩
  case round =>
    obtain ⟨j, s, hkj, hjn, rfl, rfl, s0, s1, HTg, HB⟩ := hrel
    have HR := Lib.hid (HR0.out.below HB.out)
    have HV := Lib.hid (HV0.out.below HB.out)
    by_cases hlt : j < n
    · obtain ⟨d', hd'⟩ : ∃ d', n = j + (d' + 1) := ⟨n - (j + 1), by omega⟩
      have HLd := Lib.hid (show l.length = j + (d' + 1) by rw [HN.out]; exact hd')
      have hnj : n - j = d' + 1 := by omega
      have Hnj1 := Lib.hid (show n - (j + 1) = d' by omega)
      have hdd : d' < d := by have := HNK.out; omega
      rw [hnj] at HTg
      have HHd := Lib.hid hd'
      have m0 : (0 : Int) ≤ (j : Int) := by omega
      have m1 : (j : Int) < (n : Int) := by omega
      have m2 : (0 : Int) ≤ (m : Int) := by omega
      have m3 : (m : Int) ≤ 15 := by omega
      have m4 : (n : Int) ≤ 15 := by omega
      clear hnj
      obtain ⟨bb, o, y, rfl, hbb, hy, c0, c1, c2, c3⟩ := HR.out.card (k := j) (by rw [HN.out]; exact hlt)
      have HYa := Lib.hid hy
      have HY := Lib.hid (ok_at HK.out hy)
      have HPl := Lib.hid (show (pick l ps).length = m by rw [HG.out.len, HM.out])
      have hft : fits l ps j = !decide (0 < thr (pick l ps) y m) := by unfold fits; rw [hy]; simp only; rw [HPl.out]
      have HTh := fun (p2 : Option Addr) (c2' : Nat) (w' : World) (hr : Rd w' p2 (flat (pick l ps))) => l2_through (pick l ps) y p2 m c2' w' HPl.out (by omega) hr HG.out.ok HY.out HG.out.sort
      have hvb := (thr_bd (pick l ps) y m).1
      obtain ⟨v, hv⟩ : ∃ v, thr (pick l ps) y m = v := ⟨_, rfl⟩
      rw [hv] at HTh hft hvb
      have HT2 := Lib.hid HTh
      clear hy hv HTh hd'
      by_cases hv0 : 0 < v
      · have HF := Lib.hid (show fits l ps j = false by rw [hft, decide_eq_true hv0]; rfl)
        have HE := Lib.hid (lp_no (m := r + 1) HLd.out HF.out)
        have hq : (v == 0) = false := beq_eq_false_iff_ne.2 (by omega)
        clear hft
        go_wp2_with fail
        go_region_held3 (fun w' => w'.cell? ⟨bb, o + j * 4, none⟩ = some (.int .i64 y.a) ∧ w'.cell? ⟨bb, o + j * 4 + 1, none⟩ = some (.int .i64 y.b) ∧ w'.cell? ⟨bb, o + j * 4 + 2, none⟩ = some (.int .i64 y.c) ∧ w'.cell? ⟨bb, o + j * 4 + 3, none⟩ = some (.int .i64 y.d)) (first | exact ⟨c0, c1, c2, c3⟩ | exact (HR.out.at_ HYa.out)) (first
          | (go_at_call 97; refine (l3_picked l ps _ (some ⟨g, 0, none⟩) n cp m c _ HN.out (by omega) HM.out (by omega) (by repeat (first | with_reducible exact HR.out | with_reducible apply Rd.drewN | with_reducible apply Rd.drew | with_reducible apply Rd.alloc)) (by repeat (first | with_reducible exact HV.out | with_reducible apply Rd.drewN | with_reducible apply Rd.drew | with_reducible apply Rd.alloc)) HG.out.ins).mono ?_; rintro e wq ⟨u, rfl, hu, b⟩; obtain ⟨p2, c2', rfl, _, r2, _⟩ := hu.form; have HB := Lib.hid (chain0 (w := w) (by repeat (first | with_reducible exact Below.refl _ _ | with_reducible exact HB.out | with_reducible apply Below.drew | with_reducible apply bdN | with_reducible refine Below.alloc ?_ (by first | exact Nat.le_refl _ | with_reducible exact HB.out.size | omega | (simp; done) | (simp; omega) | (have := HB.out.size; simp at *; omega)) _ | with_reducible refine Below.setCell ?_ (by first | exact Nat.le_refl _ | with_reducible exact HB.out.size | omega | (simp; done) | (simp; omega) | (have := HB.out.size; simp at *; omega)) _)) b); have HR := Lib.hid (Rd.below (by repeat (first | with_reducible exact HR.out | with_reducible apply Rd.drewN | with_reducible apply Rd.drew | with_reducible apply Rd.alloc)) b); have HV := Lib.hid (Rd.below (by repeat (first | with_reducible exact HV.out | with_reducible apply Rd.drewN | with_reducible apply Rd.drew | with_reducible apply Rd.alloc)) b); have R2 : Hid (Rd wq p2 (flat (pick l ps))) := Lib.hid r2; rw [HPl.out]; clear b r2 hu)
          | (go_at_call 57; refine (HT2.out p2 c2' _ (by repeat (first | with_reducible exact R2.out | with_reducible apply Rd.drewN | with_reducible apply Rd.drew | with_reducible apply Rd.alloc))).mono ?_; rintro e wq ⟨rfl, b⟩; have HB := Lib.hid (chain0 (w := w) (by repeat (first | with_reducible exact Below.refl _ _ | with_reducible exact HB.out | with_reducible apply Below.drew | with_reducible apply bdN | with_reducible refine Below.alloc ?_ (by first | exact Nat.le_refl _ | with_reducible exact HB.out.size | omega | (simp; done) | (simp; omega) | (have := HB.out.size; simp at *; omega)) _ | with_reducible refine Below.setCell ?_ (by first | exact Nat.le_refl _ | with_reducible exact HB.out.size | omega | (simp; done) | (simp; omega) | (have := HB.out.size; simp at *; omega)) _)) b); have HR := Lib.hid (Rd.below (by repeat (first | with_reducible exact HR.out | with_reducible apply Rd.drewN | with_reducible apply Rd.drew | with_reducible apply Rd.alloc)) b); have HV := Lib.hid (Rd.below (by repeat (first | with_reducible exact HV.out | with_reducible apply Rd.drewN | with_reducible apply Rd.drew | with_reducible apply Rd.alloc)) b); clear b))
        all_goals
          go_wp2_with fail
          go_roundw
          case rel => exact ⟨j + 1, s, by omega, by omega, by go_num, rfl, s0, s1, Lib.hid (by have h1 := HTg.out; rw [HE.out] at h1; rw [Hnj1.out]; exact h1), Lib.hid (by repeat (first | with_reducible exact Below.refl _ _ | with_reducible exact HB.out | with_reducible apply Below.drew | with_reducible apply bdN | with_reducible refine Below.alloc ?_ (by first | exact Nat.le_refl _ | with_reducible exact HB.out.size | omega | (simp; done) | (simp; omega) | (have := HB.out.size; simp at *; omega)) _ | with_reducible refine Below.setCell ?_ (by first | exact Nat.le_refl _ | with_reducible exact HB.out.size | omega | (simp; done) | (simp; omega) | (have := HB.out.size; simp at *; omega)) _))⟩
          case measure => simp [intOf]; omega
      · have HF := Lib.hid (show fits l ps j = true by rw [hft, decide_eq_false hv0]; rfl)
        have HE := Lib.hid (lp_go (r := r) HLd.out HF.out)
        have HG2 := Lib.hid ((HG.out.mono hkj).snoc HS.out HK.out HYa.out)
        obtain rfl : v = 0 := by omega
        have hcb := lc_bd (l := l) d' (ps ++ [(j : Int)]) r (by have := HHd.out; omega)
        have hlp := lp_nonneg (l := l) d' ps (r + 1)
        have HIH := fun (g' c' : Nat) (w' : World) => IH.out d' hdd (j + 1) ((j : Int) + 1) (ps ++ [(j : Int)]) g' (m + 1) c' r (R - 1) w' (by simp) (by have := HRr.out; omega) (by omega) (by have := HHd.out; omega) (by rw [List.length_append, HM.out]; rfl) HG2.out
        have hsum : s + lc l d' (ps ++ [(j : Int)]) r + lp l d' ps (r + 1) = t := by have h1 := HTg.out; rw [HE.out] at h1; omega
        obtain ⟨z, hz⟩ : ∃ z, lc l d' (ps ++ [(j : Int)]) r = z := ⟨_, rfl⟩
        rw [hz] at hcb HIH hsum
        obtain ⟨z0, z1⟩ := hcb
        have HSum := Lib.hid hsum
        have hsz : s + z ≤ 32768 := by omega
        have HI2 := Lib.hid HIH
        clear hft hz HIH hsum hlp hvb hv0
        go_wp2_with fail
        go_region_held3 (fun w' => w'.cell? ⟨bb, o + j * 4, none⟩ = some (.int .i64 y.a) ∧ w'.cell? ⟨bb, o + j * 4 + 1, none⟩ = some (.int .i64 y.b) ∧ w'.cell? ⟨bb, o + j * 4 + 2, none⟩ = some (.int .i64 y.c) ∧ w'.cell? ⟨bb, o + j * 4 + 3, none⟩ = some (.int .i64 y.d)) (first | exact ⟨c0, c1, c2, c3⟩ | exact (HR.out.at_ HYa.out)) (first
          | (go_at_call 97; refine (l3_picked l ps _ (some ⟨g, 0, none⟩) n cp m c _ HN.out (by omega) HM.out (by omega) (by repeat (first | with_reducible exact HR.out | with_reducible apply Rd.drewN | with_reducible apply Rd.drew | with_reducible apply Rd.alloc)) (by repeat (first | with_reducible exact HV.out | with_reducible apply Rd.drewN | with_reducible apply Rd.drew | with_reducible apply Rd.alloc)) HG.out.ins).mono ?_; rintro e wq ⟨u, rfl, hu, b⟩; obtain ⟨p2, c2', rfl, _, r2, _⟩ := hu.form; have HB := Lib.hid (chain0 (w := w) (by repeat (first | with_reducible exact Below.refl _ _ | with_reducible exact HB.out | with_reducible apply Below.drew | with_reducible apply bdN | with_reducible refine Below.alloc ?_ (by first | exact Nat.le_refl _ | with_reducible exact HB.out.size | omega | (simp; done) | (simp; omega) | (have := HB.out.size; simp at *; omega)) _ | with_reducible refine Below.setCell ?_ (by first | exact Nat.le_refl _ | with_reducible exact HB.out.size | omega | (simp; done) | (simp; omega) | (have := HB.out.size; simp at *; omega)) _)) b); have HR := Lib.hid (Rd.below (by repeat (first | with_reducible exact HR.out | with_reducible apply Rd.drewN | with_reducible apply Rd.drew | with_reducible apply Rd.alloc)) b); have HV := Lib.hid (Rd.below (by repeat (first | with_reducible exact HV.out | with_reducible apply Rd.drewN | with_reducible apply Rd.drew | with_reducible apply Rd.alloc)) b); have R2 : Hid (Rd wq p2 (flat (pick l ps))) := Lib.hid r2; rw [HPl.out]; clear b r2 hu)
          | (go_at_call 57; refine (HT2.out p2 c2' _ (by repeat (first | with_reducible exact R2.out | with_reducible apply Rd.drewN | with_reducible apply Rd.drew | with_reducible apply Rd.alloc))).mono ?_; rintro e wq ⟨rfl, b⟩; have HB := Lib.hid (chain0 (w := w) (by repeat (first | with_reducible exact Below.refl _ _ | with_reducible exact HB.out | with_reducible apply Below.drew | with_reducible apply bdN | with_reducible refine Below.alloc ?_ (by first | exact Nat.le_refl _ | with_reducible exact HB.out.size | omega | (simp; done) | (simp; omega) | (have := HB.out.size; simp at *; omega)) _ | with_reducible refine Below.setCell ?_ (by first | exact Nat.le_refl _ | with_reducible exact HB.out.size | omega | (simp; done) | (simp; omega) | (have := HB.out.size; simp at *; omega)) _)) b); have HR := Lib.hid (Rd.below (by repeat (first | with_reducible exact HR.out | with_reducible apply Rd.drewN | with_reducible apply Rd.drew | with_reducible apply Rd.alloc)) b); have HV := Lib.hid (Rd.below (by repeat (first | with_reducible exact HV.out | with_reducible apply Rd.drewN | with_reducible apply Rd.drew | with_reducible apply Rd.alloc)) b); clear b))
        all_goals
          go_wp2_with fail
          refine (l1_own ps g m c _ HM.out (by omega) (by repeat (first | with_reducible exact HV.out | with_reducible apply Rd.drewN | with_reducible apply Rd.drew | with_reducible apply Rd.alloc))).mono ?_
          rintro e w5 ⟨u5, rfl, ho5, b⟩
          have HSz := Lib.hid HB.out.size
          have H5 := Lib.hid ho5
          have HB5 : Hid (Below w.heap.size w w5) := Lib.hid (chain0 (by repeat (first | with_reducible exact Below.refl _ _ | with_reducible exact HB.out | with_reducible apply Below.drew | with_reducible apply bdN | with_reducible refine Below.alloc ?_ (by first | exact Nat.le_refl _ | with_reducible exact HB.out.size | omega | (simp; done) | (simp; omega) | (have := HB.out.size; simp at *; omega)) _ | with_reducible refine Below.setCell ?_ (by first | exact Nat.le_refl _ | with_reducible exact HB.out.size | omega | (simp; done) | (simp; omega) | (have := HB.out.size; simp at *; omega)) _)) b)
          have Hz5 := Lib.hid b.size
          clear b ho5
          go_wp2_with (at_builtin; refine append_int rfl (.tmp 32) (.tmp 34) rfl _ u5 ps (j : Int) w5 _ rfl rfl rfl H5.out (by have := HM.out; omega) Hz5.out ?_; intro v6 w6 hO6 hB6; have H6 := Lib.hid hO6; have Hb6 := Lib.hid hB6; clear hO6 hB6)
          have HB6 := Lib.hid (HB5.out.trans (Hb6.out.mono (by first | exact HSz.out | (have := HSz.out; have := HB5.out.size; omega))))
          have hl6 : (ps ++ [(j : Int)]).length = m + 1 := by rw [List.length_append, HM.out]; rfl
          obtain ⟨p6, c6, rfl, _, _, hp6⟩ := H6.out.form
          obtain ⟨g6, rfl, _⟩ := hp6 (by omega)
          rw [hl6] at H6 ⊢
          clear hl6 hp6
          go_wp2_with fail
          refine (HI2.out g6 c6 w6 (HR0.out.below HB6.out) H6.out.rd).mono ?_
          rintro e w7 ⟨rfl, b7⟩
          have HB7 := Lib.hid (chain0 HB6.out b7)
          clear b7
          go_wp2_with fail
          go_roundw
          case rel => exact ⟨j + 1, s + z, by omega, by omega, by go_num, by go_num, by omega, hsz, Lib.hid (by rw [Hnj1.out]; exact HSum.out), HB7⟩
          case measure => simp [intOf]; omega
    · obtain rfl : j = n := by omega
      have HTb := Lib.hid (show s = t by have h1 := HTg.out; rw [Nat.sub_self] at h1; simp only [lp] at h1; omega)
      go_wp2_with fail
      go_ret
      exact ⟨ret_int HTb.out, HB.out⟩
end Go.Proofs.Ytcedbhgjabheaaa.cards

/- Caps among draws: as many as the model counts. -/
namespace Go.Proofs.Ytcedbhgjabheaaa.chance
open Go.RowKit
open cards reg
set_option linter.unusedVariables false

theorem capF (l : List Cd) (x : Cd) (h : capB l = false) : capB (l ++ [x]) = false := by
  rw [capB_false] at h ⊢
  obtain ⟨i, j, m, a, b, c, h1, h2, ha, hb, hc, hl⟩ := h
  have up : ∀ {k : Nat} {z : Cd}, l[k]? = some z → (l ++ [x])[k]? = some z := fun {k z} hz => by
    rw [List.getElem?_append_left (List.getElem?_eq_some_iff.1 hz).1]; exact hz
  exact ⟨i, j, m, a, b, c, h1, h2, up ha, up hb, up hc, hl⟩
theorem tot_nocap : ∀ (n : Nat) (r b : List Cd), capB b = false → tot (fun d => nat (capB d)) n r b = 0
  | 0, r, b, h => by rw [tot_zero, h]; rfl
  | n + 1, [], b, h => rfl
  | n + 1, x :: r, b, h => by rw [tot, tot_nocap n r _ (capF b x h), tot_nocap (n + 1) r b h]
theorem cap_snoc {b : List Cd} {x : Cd} (hs : sorted (b ++ [x])) (hok : (b ++ [x]).all Cd.ok = true) (hb : capB b = true) : capB (b ++ [x]) = !decide (0 < thr b x b.length) := by
  have hsb : sorted b := List.Pairwise.sublist (List.sublist_append_left b [x]) hs
  have hob : b.all Cd.ok = true := ok_sub hok (List.sublist_append_left b [x])
  by_cases h : 0 < thr b x b.length
  · rw [decide_eq_true h]
    exact cap_stop (k := b.length) (z := x) hs hok (by simp) (by rw [List.take_left]; exact h)
  · rw [decide_eq_false h]
    refine cap_all (n := b.length + 1) (by simp) hs hok fun k z hk hz hc => ?_
    rcases Nat.lt_or_ge k b.length with hlt | hge
    · rw [List.getElem?_append_left hlt] at hz
      rw [List.take_append_of_le_length (by omega)] at hc
      have := cap_stop hsb hob hz hc
      rw [hb] at this; cases this
    · obtain rfl : k = b.length := by omega
      rw [List.take_left] at hc
      have e : z = x := by simpa using hz.symm
      rw [e] at hc
      exact h hc
theorem pick_snoc {l : List Cd} {ps : List Int} {k : Nat} {x : Cd} (hx : l[k]? = some x) : pick l (ps ++ [(k : Int)]) = pick l ps ++ [x] := by
  unfold pick
  rw [List.filterMap_append]
  simp [hx]
/-- The caps among the draws of n of the last d cards, behind a cap at these places. -/
theorem tot_caps {l : List Cd} (hs : sorted l) (hok : l.all Cd.ok = true) : ∀ (d k : Nat) (ps : List Int) (n : Nat), l.length = k + d → cards.Good l ps k → capB (pick l ps) = true →
    ((tot (fun d => nat (capB d)) n (l.drop k) (pick l ps) : Nat) : Int) = lc l d ps n
  | d, k, ps, 0, hk, hG, hc => by rw [tot_zero, hc]; rfl
  | 0, k, ps, n + 1, hk, hG, hc => by rw [List.drop_of_length_le (by omega)]; rfl
  | d + 1, k, ps, n + 1, hk, hG, hc => by
    have hx : l[k]? = some (l[k]'(by omega)) := List.getElem?_eq_getElem (by omega)
    obtain ⟨x, hxe⟩ : ∃ x, l[k]'(by omega) = x := ⟨_, rfl⟩
    rw [hxe] at hx
    have hG2 := hG.snoc hs hok hx
    have hp := pick_snoc (ps := ps) hx
    have h2 := tot_caps hs hok d (k + 1) ps (n + 1) (by omega) (hG.mono (Nat.le_succ k)) hc
    have hfit : fits l ps k = !decide (0 < thr (pick l ps) x (pick l ps).length) := by unfold fits; rw [hx]
    have hcs := cap_snoc (b := pick l ps) (x := x) (by rw [← hp]; exact hG2.sort) (by rw [← hp]; exact hG2.ok) hc
    rw [← hfit] at hcs
    rw [tot_cons _ hx, Int.natCast_add, h2]
    have e1 : lc l d ps (n + 1) = lp l d ps (n + 1) := by unfold lc; rw [if_neg (by omega)]
    have e2 : lc l (d + 1) ps (n + 1) = lp l (d + 1) ps (n + 1) := by unfold lc; rw [if_neg (by omega)]
    rw [e1, e2]
    cases hf : fits l ps k
    · rw [hf] at hcs
      rw [tot_nocap n _ _ hcs, lp_no hk hf]
      simp
    · rw [hf] at hcs
      have h1 := tot_caps hs hok d (k + 1) (ps ++ [(k : Int)]) n (by omega) hG2 (by rw [hp]; exact hcs)
      rw [hp] at h1
      rw [h1, lp_go hk hf]
theorem caps_tot {l : List Cd} (hs : sorted l) (hok : l.all Cd.ok = true) (n : Nat) : ((tot (fun d => nat (capB d)) n l [] : Nat) : Int) = lc l l.length [] n := by
  have h0 : capB (pick l []) = true := by
    rw [capB_true]
    rintro ⟨i, j, m, a, b, c, _, _, ha, _⟩
    simp [pick] at ha
  exact tot_caps hs hok l.length 0 [] n (by omega) (cards.Good.nil l) h0

set_option maxRecDepth 100000 in
set_option maxHeartbeats 2000000 in
theorem fit_cap (w0 : World) (l : List Cd) (n : Nat) (hl : n ≤ 1000) (hok : l.all Cd.ok = true) (hs : sorted l) : FitAt 66 #[] #[] w0 l n capB :=
  ⟨fun args w => by kernel_rfl, fun w ps g m c hb hr hsub hm hn hmc => are_cap ps (some ⟨g, 0, none⟩) m c w hm (by omega) hmc hr (ok_sub hok hsub) (List.Pairwise.sublist hsub hs)⟩

set_option maxRecDepth 100000 in
set_option maxHeartbeats 2000000 in
theorem is_pool (l : List Cd) (p : Option Addr) (n c : Nat) (w : World) (hn : l.length = n) (hl : n ≤ 1000000000) (hr : Rd w p (flat l)) :
    Calls Try.prog 65 #[.slice p n c] w fun e w' => e = .returned (.bool (poolB l)) ∧ Below w.heap.size w w' := by
  have HN := Lib.hid hn
  have HR := Lib.hid hr
  clear hn hr
  by_cases h : n ≤ 15
  · have HP : Hid (poolB l = handB l) := Lib.hid (by unfold poolB; rw [HN.out, decide_eq_true h, Bool.and_true])
    have h1 : (n : Int) ≤ 15 := by omega
    go_enter Try.func65, Try.ntmps65
    go_wp2_with fail
    refine ((is_hand l p n c _ HN.out hl (by repeat (first | with_reducible exact HR.out | with_reducible apply Rd.drewN | with_reducible apply Rd.drew | with_reducible apply Rd.alloc)))).mono ?_
    rintro e w1 ⟨rfl, b⟩
    have Sw1 := Lib.hid b.size
    have HB := Lib.hid (chain0 (w := w) (by repeat (first | with_reducible exact Below.refl _ _ | with_reducible exact HB.out | with_reducible apply Below.drew | with_reducible apply bdN | with_reducible refine Below.alloc ?_ (by first | exact Nat.le_refl _ | with_reducible exact HB.out.size | omega | (simp; done) | (simp; omega) | (have := HB.out.size; simp at *; omega)) _ | with_reducible refine Below.setCell ?_ (by first | exact Nat.le_refl _ | with_reducible exact HB.out.size | omega | (simp; done) | (simp; omega) | (have := HB.out.size; simp at *; omega)) _)) b)
    have HR := Lib.hid (Rd.below (by repeat (first | with_reducible exact HR.out | with_reducible apply Rd.drewN | with_reducible apply Rd.drew | with_reducible apply Rd.alloc)) b)
    clear b
    go_wp2_with fail
    go_ret
    exact ⟨ret_bool (by rw [HP.out]), by repeat (first | with_reducible exact Below.refl _ _ | with_reducible exact HB.out | with_reducible apply Below.drew | with_reducible apply bdN | with_reducible refine Below.alloc ?_ (by first | exact Nat.le_refl _ | with_reducible exact HB.out.size | omega | (simp; done) | (simp; omega) | (have := HB.out.size; simp at *; omega)) _ | with_reducible refine Below.setCell ?_ (by first | exact Nat.le_refl _ | with_reducible exact HB.out.size | omega | (simp; done) | (simp; omega) | (have := HB.out.size; simp at *; omega)) _)⟩
  · have HP : Hid (poolB l = false) := Lib.hid (by unfold poolB; rw [HN.out, decide_eq_false h, Bool.and_false])
    have h1 : ¬ (n : Int) ≤ 15 := by omega
    go_enter Try.func65, Try.ntmps65
    go_wp2_with fail
    go_ret
    exact ⟨ret_bool (by rw [HP.out]), Below.refl _ _⟩
end Go.Proofs.Ytcedbhgjabheaaa.chance

/- ChanceCap: the program's and the model's. -/
namespace Go.Proofs.Ytcedbhgjabheaaa.chance
open Go.RowKit
open cards reg
set_option linter.unusedVariables false

noncomputable def ccR (l : List Cd) (N : Int) : (Int × Int) × Bool := if poolB l = true ∧ 0 ≤ N ∧ N ≤ l.length then (frac (tot (fun d => nat (capB d)) N.toNat l []) (cho l.length N.toNat), true) else ((0, 0), false)
theorem ccR_no {l : List Cd} {N : Int} (h : ¬ (poolB l = true ∧ 0 ≤ N ∧ N ≤ l.length)) : ccR l N = ((0, 0), false) := if_neg h
theorem pool_hand {l : List Cd} (h : poolB l = true) : isHand l ∧ l.length ≤ 15 := by
  unfold poolB at h
  rw [Bool.and_eq_true] at h
  exact ⟨handB_true.1 h.1, of_decide_eq_true h.2⟩

set_option maxRecDepth 100000 in
set_option maxHeartbeats 4000000 in
theorem impl_cc (l : List Cd) (N : Int) (p : Option Addr) (n c : Nat) (w : World) (hn : l.length = n) (hl : n ≤ 1000000000) (hr : Rd w p (flat l)) (hcp : n ≤ c) :
    Calls Try.prog 29 #[.slice p n c, .int .i64 N] w fun e w' => e = .returned (.tuple #[.agg (fv (ccR l N).1), .bool (ccR l N).2]) ∧ Below w.heap.size w w' := by
  have K0 : Hid (VB (w.alloc (.cells (fv (0, 0)) 24)) w.heap.size 24 (fv (0, 0))) := Lib.hid (VB.newAt rfl rfl)
  have HN := Lib.hid hn
  have HR := Lib.hid hr
  clear hn hr
  cases hh : poolB l
  · have HT : Hid (ccR l N = ((0, 0), false)) := Lib.hid (ccR_no (by simp [hh]))
    have HH := Lib.hid hh
    clear hh
    go_enter Try.func29, Try.ntmps29
    go_wp2_with fail
    refine ((is_pool l p n c _ HN.out hl (by repeat (first | with_reducible exact HR.out | with_reducible apply Rd.drewN | with_reducible apply Rd.drew | with_reducible apply Rd.alloc)))).mono ?_
    rintro e w1 ⟨rfl, b⟩
    have Sw1 := Lib.hid b.size
    have HB := Lib.hid (chain0 (w := w) (by repeat (first | with_reducible exact Below.refl _ _ | with_reducible exact HB.out | with_reducible apply Below.drew | with_reducible apply bdN | with_reducible refine Below.alloc ?_ (by first | exact Nat.le_refl _ | with_reducible exact HB.out.size | omega | (simp; done) | (simp; omega) | (have := HB.out.size; simp at *; omega)) _ | with_reducible refine Below.setCell ?_ (by first | exact Nat.le_refl _ | with_reducible exact HB.out.size | omega | (simp; done) | (simp; omega) | (have := HB.out.size; simp at *; omega)) _)) b)
    have HR := Lib.hid (Rd.below (by repeat (first | with_reducible exact HR.out | with_reducible apply Rd.drewN | with_reducible apply Rd.drew | with_reducible apply Rd.alloc)) b)
    have K0 := Lib.hid (VB.below (by repeat (first | with_reducible exact K0.out | with_reducible apply VB.drewN | with_reducible apply VB.drew | with_reducible apply VB.alloc)) b)
    clear b
    rw [HH.out]
    go_wp2_with ((with_reducible refine store_a2 rfl _ _ rfl K0.out ?_ (0, 0) ?_ ?_); rfl; rfl; intro w2 hM hG)
    try simp only [Exit.inBlock, Exit.then]
    refine bodyPost_ret (res_vb2 Try.results29 rfl hM Try.underlying24 (a2_info rfl)) rfl ?_
    exact ⟨by rw [HT.out]; rfl, HB.out.grown hG HB.out.size (fun k hk => by injection hk with hk; omega)⟩
  · obtain ⟨hHd, h15⟩ := pool_hand hh
    have h27 : n ≤ 15 := by have := HN.out; omega
    have HH := Lib.hid hh
    rcases (show N < 0 ∨ (¬ N < 0 ∧ 15 < N) ∨ (0 ≤ N ∧ N ≤ 15) by omega) with h | ⟨h, h2⟩ | h
    · have HT : Hid (ccR l N = ((0, 0), false)) := Lib.hid (ccR_no (by omega))
      clear hh hHd
      go_enter Try.func29, Try.ntmps29
      go_wp2_with fail
      refine ((is_pool l p n c _ HN.out hl (by repeat (first | with_reducible exact HR.out | with_reducible apply Rd.drewN | with_reducible apply Rd.drew | with_reducible apply Rd.alloc)))).mono ?_
      rintro e w1 ⟨rfl, b⟩
      have Sw1 := Lib.hid b.size
      have HB := Lib.hid (chain0 (w := w) (by repeat (first | with_reducible exact Below.refl _ _ | with_reducible exact HB.out | with_reducible apply Below.drew | with_reducible apply bdN | with_reducible refine Below.alloc ?_ (by first | exact Nat.le_refl _ | with_reducible exact HB.out.size | omega | (simp; done) | (simp; omega) | (have := HB.out.size; simp at *; omega)) _ | with_reducible refine Below.setCell ?_ (by first | exact Nat.le_refl _ | with_reducible exact HB.out.size | omega | (simp; done) | (simp; omega) | (have := HB.out.size; simp at *; omega)) _)) b)
      have HR := Lib.hid (Rd.below (by repeat (first | with_reducible exact HR.out | with_reducible apply Rd.drewN | with_reducible apply Rd.drew | with_reducible apply Rd.alloc)) b)
      have K0 := Lib.hid (VB.below (by repeat (first | with_reducible exact K0.out | with_reducible apply VB.drewN | with_reducible apply VB.drew | with_reducible apply VB.alloc)) b)
      clear b
      rw [HH.out]
      go_wp2_with ((with_reducible refine store_a2 rfl _ _ rfl K0.out ?_ (0, 0) ?_ ?_); rfl; rfl; intro w2 hM hG)
      try simp only [Exit.inBlock, Exit.then]
      refine bodyPost_ret (res_vb2 Try.results29 rfl hM Try.underlying24 (a2_info rfl)) rfl ?_
      exact ⟨by rw [HT.out]; rfl, HB.out.grown hG HB.out.size (fun k hk => by injection hk with hk; omega)⟩
    · have HT : Hid (ccR l N = ((0, 0), false)) := Lib.hid (ccR_no (by omega))
      clear hh hHd
      go_enter Try.func29, Try.ntmps29
      go_wp2_with fail
      refine ((is_pool l p n c _ HN.out hl (by repeat (first | with_reducible exact HR.out | with_reducible apply Rd.drewN | with_reducible apply Rd.drew | with_reducible apply Rd.alloc)))).mono ?_
      rintro e w1 ⟨rfl, b⟩
      have Sw1 := Lib.hid b.size
      have HB := Lib.hid (chain0 (w := w) (by repeat (first | with_reducible exact Below.refl _ _ | with_reducible exact HB.out | with_reducible apply Below.drew | with_reducible apply bdN | with_reducible refine Below.alloc ?_ (by first | exact Nat.le_refl _ | with_reducible exact HB.out.size | omega | (simp; done) | (simp; omega) | (have := HB.out.size; simp at *; omega)) _ | with_reducible refine Below.setCell ?_ (by first | exact Nat.le_refl _ | with_reducible exact HB.out.size | omega | (simp; done) | (simp; omega) | (have := HB.out.size; simp at *; omega)) _)) b)
      have HR := Lib.hid (Rd.below (by repeat (first | with_reducible exact HR.out | with_reducible apply Rd.drewN | with_reducible apply Rd.drew | with_reducible apply Rd.alloc)) b)
      have K0 := Lib.hid (VB.below (by repeat (first | with_reducible exact K0.out | with_reducible apply VB.drewN | with_reducible apply VB.drew | with_reducible apply VB.alloc)) b)
      clear b
      rw [HH.out]
      go_wp2_with ((with_reducible refine store_a2 rfl _ _ rfl K0.out ?_ (0, 0) ?_ ?_); rfl; rfl; intro w2 hM hG)
      try simp only [Exit.inBlock, Exit.then]
      refine bodyPost_ret (res_vb2 Try.results29 rfl hM Try.underlying24 (a2_info rfl)) rfl ?_
      exact ⟨by rw [HT.out]; rfl, HB.out.grown hG HB.out.size (fun k hk => by injection hk with hk; omega)⟩
    · obtain ⟨M, rfl⟩ : ∃ M : Nat, N = (M : Int) := ⟨N.toNat, by omega⟩
      have hT : ccR l M = mdR (tot (fun d => nat (capB d)) M l []) (cho n M) := by
        unfold ccR
        by_cases hle : (M : Int) ≤ l.length
        · rw [if_pos ⟨hh, by omega, hle⟩, HN.out, mdR_1 (cho_pos (by have := HN.out; omega))]; rfl
        · rw [if_neg (fun hc => hle hc.2.2), mdR_0 (cho_none (by have := HN.out; omega))]
      have HC := Lib.hid (fun w (hr : Rd w p (flat l)) => chance_drawn 66 #[] #[] w l M capB (fit_cap w l M (by omega) hHd.2.1 hHd.2.2) p n c HN.out hcp (by omega) (by omega) hr (Nat.le_trans (cho_27 (by omega)) (by omega)))
      rw [← hT] at HC
      have h0 : ¬ (M : Int) < 0 := by omega
      have h1 : (M : Int) ≤ 15 := by omega
      clear hh hT hHd h
      generalize ccR l M = r at *
      obtain ⟨fr, ok⟩ := r
      dsimp only at HC ⊢
      go_enter Try.func29, Try.ntmps29
      go_wp2_with fail
      refine ((is_pool l p n c _ HN.out hl (by repeat (first | with_reducible exact HR.out | with_reducible apply Rd.drewN | with_reducible apply Rd.drew | with_reducible apply Rd.alloc)))).mono ?_
      rintro e w1 ⟨rfl, b⟩
      have Sw1 := Lib.hid b.size
      have HB := Lib.hid (chain0 (w := w) (by repeat (first | with_reducible exact Below.refl _ _ | with_reducible exact HB.out | with_reducible apply Below.drew | with_reducible apply bdN | with_reducible refine Below.alloc ?_ (by first | exact Nat.le_refl _ | with_reducible exact HB.out.size | omega | (simp; done) | (simp; omega) | (have := HB.out.size; simp at *; omega)) _ | with_reducible refine Below.setCell ?_ (by first | exact Nat.le_refl _ | with_reducible exact HB.out.size | omega | (simp; done) | (simp; omega) | (have := HB.out.size; simp at *; omega)) _)) b)
      have HR := Lib.hid (Rd.below (by repeat (first | with_reducible exact HR.out | with_reducible apply Rd.drewN | with_reducible apply Rd.drew | with_reducible apply Rd.alloc)) b)
      have K0 := Lib.hid (VB.below (by repeat (first | with_reducible exact K0.out | with_reducible apply VB.drewN | with_reducible apply VB.drew | with_reducible apply VB.alloc)) b)
      clear b
      rw [HH.out]
      go_wp2_with fail
      refine ((HC.out _ (by repeat (first | with_reducible exact HR.out | with_reducible apply Rd.drewN | with_reducible apply Rd.drew | with_reducible apply Rd.alloc)))).mono ?_
      rintro e w2 ⟨rfl, b⟩
      have Sw2 := Lib.hid b.size
      have HB := Lib.hid (chain0 (w := w) (by repeat (first | with_reducible exact Below.refl _ _ | with_reducible exact HB.out | with_reducible apply Below.drew | with_reducible apply bdN | with_reducible refine Below.alloc ?_ (by first | exact Nat.le_refl _ | with_reducible exact HB.out.size | omega | (simp; done) | (simp; omega) | (have := HB.out.size; simp at *; omega)) _ | with_reducible refine Below.setCell ?_ (by first | exact Nat.le_refl _ | with_reducible exact HB.out.size | omega | (simp; done) | (simp; omega) | (have := HB.out.size; simp at *; omega)) _)) b)
      have HR := Lib.hid (Rd.below (by repeat (first | with_reducible exact HR.out | with_reducible apply Rd.drewN | with_reducible apply Rd.drew | with_reducible apply Rd.alloc)) b)
      have K0 := Lib.hid (VB.below (by repeat (first | with_reducible exact K0.out | with_reducible apply VB.drewN | with_reducible apply VB.drew | with_reducible apply VB.alloc)) b)
      clear b
      go_wp2_with ((with_reducible refine store_a2 rfl _ _ rfl K0.out ?_ fr ?_ ?_); rfl; rfl; intro w3 hM hG)
      try simp only [Exit.inBlock, Exit.then]
      refine bodyPost_ret (res_vb2 Try.results29 rfl hM Try.underlying24 (a2_info rfl)) rfl ?_
      exact ⟨rfl, HB.out.grown hG HB.out.size (fun k hk => by injection hk with hk; omega)⟩

set_option maxRecDepth 100000 in
set_option maxHeartbeats 4000000 in
theorem spec_cc (l : List Cd) (N : Int) (p : Option Addr) (n c : Nat) (w : World) (hn : l.length = n) (hl : n ≤ 1000000000) (hr : Rd w p (flat l)) (hcp : n ≤ c) :
    Calls Try.prog 28 #[.slice p n c, .int .i64 N] w fun e w' => e = .returned (.tuple #[.agg (fv (ccR l N).1), .bool (ccR l N).2]) ∧ Below w.heap.size w w' := by
  have K0 : Hid (VB (w.alloc (.cells (fv (0, 0)) 24)) w.heap.size 24 (fv (0, 0))) := Lib.hid (VB.newAt rfl rfl)
  have HN := Lib.hid hn
  have HR := Lib.hid hr
  clear hn hr
  cases hh : poolB l
  · have HT : Hid (ccR l N = ((0, 0), false)) := Lib.hid (ccR_no (by simp [hh]))
    have HH := Lib.hid hh
    clear hh
    go_enter Try.func28, Try.ntmps28
    go_wp2_with fail
    refine ((l3_pool l p n c _ HN.out hl (by repeat (first | with_reducible exact HR.out | with_reducible apply Rd.drewN | with_reducible apply Rd.drew | with_reducible apply Rd.alloc)))).mono ?_
    rintro e w1 ⟨rfl, b⟩
    have Sw1 := Lib.hid b.size
    have HB := Lib.hid (chain0 (w := w) (by repeat (first | with_reducible exact Below.refl _ _ | with_reducible exact HB.out | with_reducible apply Below.drew | with_reducible apply bdN | with_reducible refine Below.alloc ?_ (by first | exact Nat.le_refl _ | with_reducible exact HB.out.size | omega | (simp; done) | (simp; omega) | (have := HB.out.size; simp at *; omega)) _ | with_reducible refine Below.setCell ?_ (by first | exact Nat.le_refl _ | with_reducible exact HB.out.size | omega | (simp; done) | (simp; omega) | (have := HB.out.size; simp at *; omega)) _)) b)
    have HR := Lib.hid (Rd.below (by repeat (first | with_reducible exact HR.out | with_reducible apply Rd.drewN | with_reducible apply Rd.drew | with_reducible apply Rd.alloc)) b)
    have K0 := Lib.hid (VB.below (by repeat (first | with_reducible exact K0.out | with_reducible apply VB.drewN | with_reducible apply VB.drew | with_reducible apply VB.alloc)) b)
    clear b
    rw [HH.out]
    go_wp2_with ((with_reducible refine store_a2 rfl _ _ rfl K0.out ?_ (0, 0) ?_ ?_); rfl; rfl; intro w2 hM hG)
    try simp only [Exit.inBlock, Exit.then]
    refine bodyPost_ret (res_vb2 Try.results28 rfl hM Try.underlying24 (a2_info rfl)) rfl ?_
    exact ⟨by rw [HT.out]; rfl, HB.out.grown hG HB.out.size (fun k hk => by injection hk with hk; omega)⟩
  · obtain ⟨hHd, h15⟩ := pool_hand hh
    have h27 : n ≤ 15 := by have := HN.out; omega
    have HH := Lib.hid hh
    by_cases h : N < 0 ∨ (n : Int) < N
    · have HT : Hid (ccR l N = ((0, 0), false)) := Lib.hid (ccR_no (by have := HN.out; omega))
      have HI := Lib.hid (fun w => in_no N 0 n w h)
      clear hh hHd h
      go_enter Try.func28, Try.ntmps28
      go_wp2_with fail
      refine ((l3_pool l p n c _ HN.out hl (by repeat (first | with_reducible exact HR.out | with_reducible apply Rd.drewN | with_reducible apply Rd.drew | with_reducible apply Rd.alloc)))).mono ?_
      rintro e w1 ⟨rfl, b⟩
      have Sw1 := Lib.hid b.size
      have HB := Lib.hid (chain0 (w := w) (by repeat (first | with_reducible exact Below.refl _ _ | with_reducible exact HB.out | with_reducible apply Below.drew | with_reducible apply bdN | with_reducible refine Below.alloc ?_ (by first | exact Nat.le_refl _ | with_reducible exact HB.out.size | omega | (simp; done) | (simp; omega) | (have := HB.out.size; simp at *; omega)) _ | with_reducible refine Below.setCell ?_ (by first | exact Nat.le_refl _ | with_reducible exact HB.out.size | omega | (simp; done) | (simp; omega) | (have := HB.out.size; simp at *; omega)) _)) b)
      have HR := Lib.hid (Rd.below (by repeat (first | with_reducible exact HR.out | with_reducible apply Rd.drewN | with_reducible apply Rd.drew | with_reducible apply Rd.alloc)) b)
      have K0 := Lib.hid (VB.below (by repeat (first | with_reducible exact K0.out | with_reducible apply VB.drewN | with_reducible apply VB.drew | with_reducible apply VB.alloc)) b)
      clear b
      rw [HH.out]
      go_wp2_with fail
      refine (HI.out _).mono ?_
      rintro e w' ⟨rfl, rfl⟩
      go_wp2_with ((with_reducible refine store_a2 rfl _ _ rfl K0.out ?_ (0, 0) ?_ ?_); rfl; rfl; intro w2 hM hG)
      try simp only [Exit.inBlock, Exit.then]
      refine bodyPost_ret (res_vb2 Try.results28 rfl hM Try.underlying24 (a2_info rfl)) rfl ?_
      exact ⟨by rw [HT.out]; rfl, HB.out.grown hG HB.out.size (fun k hk => by injection hk with hk; omega)⟩
    · obtain ⟨M, rfl⟩ : ∃ M : Nat, N = (M : Int) := ⟨N.toNat, by omega⟩
      have hT : ccR l M = (frac (tot (fun d => nat (capB d)) M l []) (cho n M), true) := by
        unfold ccR
        rw [if_pos ⟨hh, by omega, by have := HN.out; omega⟩, HN.out]; rfl
      have hct := caps_tot hHd.2.2 hHd.2.1 M
      have hcb := lc_bd (l := l) l.length [] M h15
      have HI := Lib.hid (fun w => in_yes (M : Int) 0 n w (by omega) (by omega))
      have HCn := fun w g (hr : Rd w p (flat l)) hv => l3_count l p n c HN.out h27 hHd.2.1 hHd.2.2 n 0 0 [] g 0 0 M (M : Int) w rfl rfl (by omega) (by omega) rfl (cards.Good.nil l) hr hv
      rw [HN.out] at hct hcb
      rw [← hct] at HCn hcb
      have HCh := Lib.hid (fun w => l9_choose n M w (by omega) (by omega) (cho_small (by omega) (by omega)))
      have HCu := fun w => l9_cut (tot (fun d => nat (capB d)) M l []) (cho n M) w (cho_pos (by omega)) (by omega) (Nat.le_trans (cho_27 (by omega)) (by omega))
      rw [hT]
      generalize frac (tot (fun d => nat (capB d)) M l []) (cho n M) = fr at *
      generalize tot (fun d => nat (capB d)) M l [] = T at *
      generalize cho n M = D at *
      have HCn := Lib.hid HCn
      have HCu := Lib.hid HCu
      clear hh hT hHd h hct hcb
      dsimp only
      go_enter Try.func28, Try.ntmps28
      go_wp2_with fail
      refine ((l3_pool l p n c _ HN.out hl (by repeat (first | with_reducible exact HR.out | with_reducible apply Rd.drewN | with_reducible apply Rd.drew | with_reducible apply Rd.alloc)))).mono ?_
      rintro e w1 ⟨rfl, b⟩
      have Sw1 := Lib.hid b.size
      have HB := Lib.hid (chain0 (w := w) (by repeat (first | with_reducible exact Below.refl _ _ | with_reducible exact HB.out | with_reducible apply Below.drew | with_reducible apply bdN | with_reducible refine Below.alloc ?_ (by first | exact Nat.le_refl _ | with_reducible exact HB.out.size | omega | (simp; done) | (simp; omega) | (have := HB.out.size; simp at *; omega)) _ | with_reducible refine Below.setCell ?_ (by first | exact Nat.le_refl _ | with_reducible exact HB.out.size | omega | (simp; done) | (simp; omega) | (have := HB.out.size; simp at *; omega)) _)) b)
      have HR := Lib.hid (Rd.below (by repeat (first | with_reducible exact HR.out | with_reducible apply Rd.drewN | with_reducible apply Rd.drew | with_reducible apply Rd.alloc)) b)
      have K0 := Lib.hid (VB.below (by repeat (first | with_reducible exact K0.out | with_reducible apply VB.drewN | with_reducible apply VB.drew | with_reducible apply VB.alloc)) b)
      clear b
      rw [HH.out]
      go_wp2_with fail
      refine (HI.out _).mono ?_
      rintro e w' ⟨rfl, rfl⟩
      go_wp2_with fail
      refine ((HCn.out _ _ (by repeat (first | with_reducible exact HR.out | with_reducible apply Rd.drewN | with_reducible apply Rd.drew | with_reducible apply Rd.alloc)) (fun hp => by simp [ints] at hp))).mono ?_
      rintro e w2 ⟨rfl, b⟩
      have Sw2 := Lib.hid b.size
      have HB := Lib.hid (chain0 (w := w) (by repeat (first | with_reducible exact Below.refl _ _ | with_reducible exact HB.out | with_reducible apply Below.drew | with_reducible apply bdN | with_reducible refine Below.alloc ?_ (by first | exact Nat.le_refl _ | with_reducible exact HB.out.size | omega | (simp; done) | (simp; omega) | (have := HB.out.size; simp at *; omega)) _ | with_reducible refine Below.setCell ?_ (by first | exact Nat.le_refl _ | with_reducible exact HB.out.size | omega | (simp; done) | (simp; omega) | (have := HB.out.size; simp at *; omega)) _)) b)
      have HR := Lib.hid (Rd.below (by repeat (first | with_reducible exact HR.out | with_reducible apply Rd.drewN | with_reducible apply Rd.drew | with_reducible apply Rd.alloc)) b)
      have K0 := Lib.hid (VB.below (by repeat (first | with_reducible exact K0.out | with_reducible apply VB.drewN | with_reducible apply VB.drew | with_reducible apply VB.alloc)) b)
      clear b
      go_wp2_with fail
      refine ((HCh.out _)).mono ?_
      rintro e w3 ⟨rfl, b⟩
      have Sw3 := Lib.hid b.size
      have HB := Lib.hid (chain0 (w := w) (by repeat (first | with_reducible exact Below.refl _ _ | with_reducible exact HB.out | with_reducible apply Below.drew | with_reducible apply bdN | with_reducible refine Below.alloc ?_ (by first | exact Nat.le_refl _ | with_reducible exact HB.out.size | omega | (simp; done) | (simp; omega) | (have := HB.out.size; simp at *; omega)) _ | with_reducible refine Below.setCell ?_ (by first | exact Nat.le_refl _ | with_reducible exact HB.out.size | omega | (simp; done) | (simp; omega) | (have := HB.out.size; simp at *; omega)) _)) b)
      have HR := Lib.hid (Rd.below (by repeat (first | with_reducible exact HR.out | with_reducible apply Rd.drewN | with_reducible apply Rd.drew | with_reducible apply Rd.alloc)) b)
      have K0 := Lib.hid (VB.below (by repeat (first | with_reducible exact K0.out | with_reducible apply VB.drewN | with_reducible apply VB.drew | with_reducible apply VB.alloc)) b)
      clear b
      go_wp2_with fail
      refine ((HCu.out _)).mono ?_
      rintro e w4 ⟨rfl, b⟩
      have Sw4 := Lib.hid b.size
      have HB := Lib.hid (chain0 (w := w) (by repeat (first | with_reducible exact Below.refl _ _ | with_reducible exact HB.out | with_reducible apply Below.drew | with_reducible apply bdN | with_reducible refine Below.alloc ?_ (by first | exact Nat.le_refl _ | with_reducible exact HB.out.size | omega | (simp; done) | (simp; omega) | (have := HB.out.size; simp at *; omega)) _ | with_reducible refine Below.setCell ?_ (by first | exact Nat.le_refl _ | with_reducible exact HB.out.size | omega | (simp; done) | (simp; omega) | (have := HB.out.size; simp at *; omega)) _)) b)
      have HR := Lib.hid (Rd.below (by repeat (first | with_reducible exact HR.out | with_reducible apply Rd.drewN | with_reducible apply Rd.drew | with_reducible apply Rd.alloc)) b)
      have K0 := Lib.hid (VB.below (by repeat (first | with_reducible exact K0.out | with_reducible apply VB.drewN | with_reducible apply VB.drew | with_reducible apply VB.alloc)) b)
      clear b
      go_wp2_with ((with_reducible refine store_a2 rfl _ _ rfl K0.out ?_ fr ?_ ?_); rfl; rfl; intro w5 hM hG)
      try simp only [Exit.inBlock, Exit.then]
      refine bodyPost_ret (res_vb2 Try.results28 rfl hM Try.underlying24 (a2_info rfl)) rfl ?_
      exact ⟨rfl, HB.out.grown hG HB.out.size (fun k hk => by injection hk with hk; omega)⟩
end Go.Proofs.Ytcedbhgjabheaaa.chance

