/- Merged texts: El, Rg, Rc, Vx, Vy, Vz, Ej, Ef, Ei, Ek, En, Eo, Ep, Eq, Er, W1, Ey, Ez, Ja, Ex, Rd, Jb, Eu, Ev, Ew, Jd, Jf, Je, Jg, Jh, Ji, Jk, Jl, Jn, Jp, Jq, Jr, W2, Ws. -/
import Derived.Test.YtjanphcfflahkaaEe
import Derived.Test.YtjanphcfflahkaaE3
import Derived.Test.YtjanphcfflahkaaCd
import Derived.Deep.MidRow
import Derived.OrdersHeld
import Derived.Deep.RegionHeld3
import Derived.Laws.ResultCell
import Derived.Laws.Rows
import Derived.IntWalk
import Derived.Laws.AppendOwn
import Derived.Maps.AppendAt
import Derived.Test.YtjanphcfflahkaaUa
import Derived.Test.YtjanphcfflahkaaQq
import Derived.Test.YtjanphcfflahkaaAp
import Derived.Test.YtjanphcfflahkaaAt
import Derived.Lib.MinMax
import Derived.Laws.CopyOwn
import Derived.Lib.SliceRun
import Derived.Test.YtjanphcfflahkaaQt
import Derived.Test.YtjanphcfflahkaaQe
import Derived.Test.YtjanphcfflahkaaRw
import Derived.Test.YtjanphcfflahkaaPu
import Derived.Test.YtjanphcfflahkaaQn
import Derived.BigQuiet
import Derived.Test.YtjanphcfflahkaaUb
import Derived.Test.YtjanphcfflahkaaQs
import Derived.Test.YtjanphcfflahkaaQx
import Derived.Deep.LoopGhost
import Derived.Deep.CutBlock
import Derived.Test.YtjanphcfflahkaaCp
import Derived.Shelf.SlSortCmp.Insertion1
import Derived.Test.YtjanphcfflahkaaProg
/- Claims that the law makes, and slices of numbers between two blocks. -/
namespace Go.Proofs.Ytjanphcfflahkaa.game
open Go.RowKit
open cards deal
set_option linter.unusedVariables false

/-! Slices of numbers between two blocks. -/
structure OwnS (w : World) (B C : Nat) (v : Value) (l : List Int) : Prop where
  o : OwnI w B v l
  c : ∀ g, v.ownBlock = some g → g < C
section
variable {w w1 : World} {B C : Nat} {v : Value} {l : List Int}
theorem OwnS.below (h : OwnS w B C v l) (b : Below w.heap.size w w1) : OwnS w1 B C v l := ⟨h.o.below b, h.c⟩
theorem OwnS.alloc (h : OwnS w B C v l) (o : Obj) : OwnS (w.alloc o) B C v l := ⟨h.o.alloc o, h.c⟩
theorem OwnS.drew (h : OwnS w B C v l) : OwnS w.drew B C v l := ⟨h.o.drew, h.c⟩
theorem OwnS.drewN (h : OwnS w B C v l) (k : Nat) : OwnS (w.drewN k) B C v l := ⟨h.o.drewN k, h.c⟩
theorem OwnS.out {a b : Nat} (h : OwnS w B C v l) (o : Out a b w w1) (hd : C ≤ a ∨ b ≤ B) : OwnS w1 B C v l := ⟨OwnI.out h.o o (fun g e => by have := h.c g e; have := (h.o.span g e).1; omega), h.c⟩
theorem OwnS.base {B' : Nat} (h : OwnS w B C v l) (hB : B' ≤ B) : OwnS w B' C v l := ⟨OwnI.base h.o hB, h.c⟩
theorem OwnS.rd {p : Option Addr} {n c : Nat} (h : OwnS w B C (.slice p n c) l) : Rd w p (ints l) := h.o.rd
theorem OwnS.of (h : OwnI w B v l) : OwnS w B w.heap.size v l := ⟨h, fun g e => (h.span g e).2⟩
end
set_option maxHeartbeats 400000 in
theorem mark_intsS (l : List Int) (v : Value) (B C k0 n : Nat) (w : World) (hn : l.length = n) (hl : k0 + n ≤ 1000000000) (hC : C ≤ w.heap.size) (hB : B ≤ C) (ho : OwnS w B C v l) :
    Calls Try.prog 33 #[v, .int .i64 k0] w fun e w' => e = .returned (.int .i64 (k0 + n : Nat)) ∧ OwnS w' B C v (markedI k0 n) ∧ Out B C w w' :=
  (mark_ints l v B k0 n w hn hl (by omega) ho.o).mono fun e w' ⟨he, h1, h2⟩ => ⟨he, ⟨h1, ho.c⟩, Out.grown h2 (fun g e => ⟨(ho.o.span g e).1, ho.c g e⟩)⟩

/-! Claims. -/
/-- A block that holds a claim. -/
structure Cv where
  t : TypeId
  c : Cd
abbrev Cv.obj (x : Cv) : Obj := .cells #[.int .i64 x.c.a, .int .i64 x.c.b, .int .i64 x.c.c, .int .i64 x.c.d] x.t
def CBox (w : World) (g : Nat) (x : Cv) : Prop := w.heap[g]? = some x.obj
section
variable {w w1 : World} {g : Nat} {x : Cv}
theorem CBox.lt (h : CBox w g x) : g < w.heap.size := (Array.getElem?_eq_some_iff.1 h).1
theorem CBox.newAt {o : Obj} (h : w.heap.size = g) (ho : o = x.obj) : CBox (w.alloc o) g x := by subst h; subst ho; exact heap_alloc_new w _
theorem CBox.alloc (h : CBox w g x) (o : Obj) : CBox (w.alloc o) g x := (Below.heap_alloc w o g h.lt).trans h
theorem CBox.drew (h : CBox w g x) : CBox w.drew g x := h
theorem CBox.drewN (h : CBox w g x) (n : Nat) : CBox (w.drewN n) g x := h
theorem CBox.below (h : CBox w g x) (b : Below w.heap.size w w1) : CBox w1 g x := (b.block g h.lt).trans h
theorem CBox.cell (h : CBox w g x) : w.cell? ⟨g, 0, none⟩ = some (.int .i64 x.c.a) ∧ w.cell? ⟨g, 1, none⟩ = some (.int .i64 x.c.b) ∧ w.cell? ⟨g, 2, none⟩ = some (.int .i64 x.c.c) ∧ w.cell? ⟨g, 3, none⟩ = some (.int .i64 x.c.d) := by
  unfold CBox at h
  exact ⟨by rw [cell_of_row w g 0 _ _ _ h]; rfl, by rw [cell_of_row w g 1 _ _ _ h]; rfl, by rw [cell_of_row w g 2 _ _ _ h]; rfl, by rw [cell_of_row w g 3 _ _ _ h]; rfl⟩
theorem CBox.frozen (h : CBox w g x) : ∀ i, w.frozen? ⟨g, i, none⟩ = false := fun i => frozen_of_row w g i _ _ h
theorem CBox.out {a b : Nat} (h : CBox w g x) (o : Out a b w w1) (hg : g < a ∨ b ≤ g) : CBox w1 g x := (o.block g h.lt hg).trans h
theorem CBox.far (h : CBox w g x) {g2 : Nat} (hp : g ≠ g2) (o : Nat) (u : Value) : CBox (w.setCell ⟨g2, o, none⟩ u) g x := (Below.heap_setCell w ⟨g2, o, none⟩ u g hp).trans h
end
theorem CBox.set_ {w : World} {g : Nat} {t : TypeId} {x : Cd} (h : CBox w g ⟨t, x⟩) (y : Cd) : CBox ((((w.setCell ⟨g, 0, none⟩ (.int .i64 y.a)).setCell ⟨g, 1, none⟩ (.int .i64 y.b)).setCell ⟨g, 2, none⟩ (.int .i64 y.c)).setCell ⟨g, 3, none⟩ (.int .i64 y.d)) g ⟨t, y⟩ := by
  unfold CBox at h ⊢
  rw [heap_setCell_same _ g 3 _ _ _ (heap_setCell_same _ g 2 _ _ _ (heap_setCell_same _ g 1 _ _ _ (heap_setCell_same w g 0 _ _ _ h)))]
  rfl

section
variable {w w1 : World} {B C : Nat} {v : Value} {l : List Cd}
end
end Go.Proofs.Ytjanphcfflahkaa.game

/- A region that draws its order, whose calls come one behind the other, with one new block among its operations into which the last operation stores: ONE walk serves all its orders. -/
namespace Go.Proofs.Ytjanphcfflahkaa.reg
open Go.RowKit
set_option linter.unusedVariables false

section
variable {P : Program} {md : Region.Mode} {ops : Array Oper} {Q : Exit → Act → World → Prop}

/-- What an operation that is carried out leaves: its value, and the world. -/
def Upon (P : Program) (R : Value → World → Prop) : Result Next → Prop
  | .ok (.value v) w' => R v w'
  | .ok (.enter f args) w' => Calls P f args w' (fun e w'' => ∃ v, e = .returned v ∧ R v w'')
  | _ => False
/-- What is known of the world holds also with the new block. -/
structure Clo (n0 : Nat) (obj : Obj) (S I : World → Prop) : Prop where
  held : ∀ w, I w → S w
  big : ∀ w, I w → n0 ≤ w.heap.size
  grow : ∀ w, I w → I (w.alloc obj)
def ptr (g : Nat) : Value := .pointer (some ⟨g, 0, none⟩)
def chainA (P : Program) (ops : Array Oper) (S : World → Prop) (n0 : Nat) (obj : Obj) (fin : Act → (World → Prop) → Prop) : List (Bool × Nat) → Act → (World → Prop) → Prop
  | [], a, I => fin a I
  | (true, i) :: r, a, I => ∃ o v, ops[i]? = some o ∧ YieldsIf P ops S o v a ∧ chainA P ops S n0 obj fin r (a.put o.dst v) I
  | (false, i) :: r, a, I => ∃ o, ops[i]? = some o ∧ o.guard = none ∧ ∀ w, I w → Upon P (fun v w' => Below w.heap.size w w' ∧ ∃ I', Clo n0 obj S I' ∧ I' w' ∧ chainA P ops S n0 obj fin r (a.put o.dst v) I') ((execOp a.eval o).run P w)
/-- The end of a region with a new block. -/
def atEnd (n0 : Nat) (obj : Obj) (f : Act → World → Nat → Prop) (a : Act) (I : World → Prop) : Prop := ∀ w g, I w → n0 ≤ g → w.heap[g]? = some obj → f a w g
/-- The end of a region without one. -/
def atEndP (f : Act → World → Prop) (a : Act) (I : World → Prop) : Prop := ∀ w, I w → f a w
def apartAt (ops : Array Oper) (oa : Oper) (i : Nat) : Bool := match ops[i]? with
  | some o => oa.apart ops o
  | none => false
theorem wanted_of {o : Oper} {a : Act} (hg : o.guard = none) : Region.wanted o (yielded ops a.tmps) = true := by
  unfold Region.wanted; rw [hg]
theorem wpOp_upon {i : Nat} {o : Oper} {a : Act} {w : World} {R : Value → World → Prop} {K : Act → World → Prop} (hi : ops[i]? = some o) (hg : o.guard = none)
    (h : Upon P R ((execOp a.eval o).run P w)) (hK : ∀ v w', R v w' → K (a.put o.dst v) w') : wpOp P ops Q i K a w := by
  unfold wpOp
  simp only [hi, wanted_of hg, if_true]
  refine .inl ?_
  unfold Oper.wp
  generalize (execOp a.eval o).run P w = r at h
  cases r with
  | ok n w' =>
    cases n <;> simp only [Upon] at h <;> simp only [Oper.upon]
    case value v => exact hK _ _ h
    case enter f args => exact h.mono fun e w'' ⟨v, he, hr⟩ => by subst he; exact hK _ _ hr
  | halt x w' => simp only [Upon] at h

/-- What is left comes up one by one. -/
def seqOk (md : Region.Mode) (ops : Array Oper) : List Nat → Array Bool → Bool
  | [], l => Region.ready md ops l == []
  | j :: r, l => (Region.ready md ops l == [j]) && seqOk md ops r (l.setIfInBounds j true)
/-- What is kept in variables at the end: number j of the region keeps slot u in slot d. -/
def assignOf (o : Oper) : Option (Tmp × Tmp) := match o.op, o.guard, o.dst with
  | .assign (.tmp u), none, some d => some (d, u)
  | _, _, _ => none
theorem assignOf_some {o : Oper} {d u : Tmp} (h : assignOf o = some (d, u)) : o.op = .assign (.tmp u) ∧ o.guard = none ∧ o.dst = some d := by
  unfold assignOf at h
  split at h
  · rename_i h1 h2 h3; cases h; exact ⟨h1, h2, h3⟩
  · cases h
def assigns (ops : Array Oper) : List (Nat × Tmp × Tmp) → Bool
  | [] => true
  | (j, d, u) :: r => ((ops[j]?).bind assignOf == some (d, u)) && assigns ops r
def runsTo : List (Nat × Tmp × Tmp) → Act → Act → Prop
  | [], a, a' => a' = a
  | (j, d, u) :: r, a, a' => ∃ v, a.eval (.tmp u) = v ∧ runsTo r (a.put (some d) v) a'
theorem tail_of {S : World → Prop} : ∀ (ts : List (Nat × Tmp × Tmp)) (l : Array Bool) (a a' : Act) (w : World), seqOk md ops (ts.map (·.1)) l = true → assigns ops ts = true → S w → runsTo ts a a' → Q .normal a' w → wpAnyH P md ops Q S ts.length l a w
  | [], l, a, a', w, hok, _, _, hr, h => by subst hr; exact wpAnyH_done (by simpa [seqOk] using hok) h 0
  | (j, d, u) :: r, l, a, a', w, hok, has, hS, hr, h => by
    simp only [seqOk, List.map_cons, Bool.and_eq_true, beq_iff_eq] at hok
    simp only [assigns, Bool.and_eq_true, beq_iff_eq] at has
    refine wpAnyH_all hok.1 (by simp) fun i hi => ?_
    obtain rfl : i = j := by simpa using hi
    obtain ⟨h1, h2⟩ := has
    cases ho : ops[i]? with
    | none => rw [ho] at h1; cases h1
    | some o =>
      rw [ho] at h1
      change assignOf o = some (d, u) at h1
      obtain ⟨hop, hg, hd⟩ := assignOf_some h1
      obtain ⟨v, hv, hr⟩ := hr
      refine wpOp_upon (R := fun v' w' => v' = v ∧ w' = w) ho hg (by unfold execOp; rw [hop]; exact ⟨hv, rfl⟩) ?_
      rintro v' w' ⟨rfl, rfl⟩
      rw [hd]
      exact ⟨hS, tail_of r _ _ _ _ hok.2 h2 hS hr h⟩
def chainOk (md : Region.Mode) (ops : Array Oper) (oa : Oper) (i0 s : Nat) (ts : List (Nat × Tmp × Tmp)) : List (Bool × Nat) → Array Bool → Bool
  | [], l => (Region.ready md ops l == [i0]) && (Region.ready md ops (l.setIfInBounds i0 true) == [s]) && seqOk md ops (ts.map (·.1)) ((l.setIfInBounds i0 true).setIfInBounds s true)
  | (true, i) :: r, l => Region.free md ops l i && (Region.ready md ops l).contains i && Region.free md ops (l.setIfInBounds i0 true) i && (Region.ready md ops (l.setIfInBounds i0 true)).contains i && apartAt ops oa i && (i != i0) && chainOk md ops oa i0 s ts r (l.setIfInBounds i true)
  | (false, i) :: r, l => ((Region.ready md ops l == [i]) || (Region.ready md ops l == [i, i0]) || (Region.ready md ops l == [i0, i])) && (Region.ready md ops (l.setIfInBounds i0 true) == [i]) && apartAt ops oa i && (i != i0) && chainOk md ops oa i0 s ts r (l.setIfInBounds i true)

variable {S : World → Prop} {n0 : Nat} {obj : Obj} {fin : Act → World → Nat → Prop} {oa : Oper} {i0 s d0 : Nat} {ts : List (Nat × Tmp × Tmp)}

theorem done_of (hsel : Region.noSelect ops = true) (hQ : ∀ c (d : Option Tmp) v a w, Q (.panic c) (a.put d v) w → Q (.panic c) a w) (hd : oa.dst = some d0)
    (ha0 : ops[i0]? = some oa) (hs : ∃ os, ops[s]? = some os ∧ os.guard = none)
    (has : assigns ops ts = true) (hfin : ∀ a w g, fin a w g → wpOp P ops Q s (fun a' w' => S w' ∧ ∃ a'', runsTo ts a' a'' ∧ Q .normal a'' w') (a.put (some d0) (ptr g)) w) :
    ∀ (r : List (Bool × Nat)) (l : Array Bool) (a : Act) (I : World → Prop) (w : World) (g : Nat), chainOk md ops oa i0 s ts r l = true → Clo n0 obj S I → I w → n0 ≤ g → w.heap[g]? = some obj →
      chainA P ops S n0 obj (atEnd n0 obj fin) r a I → wpAnyH P md ops Q S (r.length + ts.length + 1) (l.setIfInBounds i0 true) (a.put (some d0) (ptr g)) w
  | [], l, a, I, w, g, hok, hc, hI, hg, hb, h => by
    simp only [chainOk, Bool.and_eq_true, beq_iff_eq] at hok
    refine wpAnyH_all hok.1.2 (by simp) fun i hi => ?_
    obtain rfl : i = s := by simpa using hi
    simp only [List.length_nil, Nat.zero_add]
    exact wpOp_mono (fun a' w' ⟨h1, a'', h2, h3⟩ => ⟨h1, tail_of ts _ _ _ _ hok.2 has h1 h2 h3⟩) (hfin _ _ _ (h w g hI hg hb))
  | (true, i) :: r, l, a, I, w, g, hok, hc, hI, hg, hb, h => by
    simp only [chainOk, Bool.and_eq_true] at hok
    obtain ⟨⟨⟨⟨⟨⟨h1, h2⟩, h3⟩, h4⟩, h5⟩, h6⟩, h7⟩ := hok
    obtain ⟨o, v, ho, hy, hr⟩ := h
    have hap : oa.apart ops o = true := by unfold apartAt at h5; rw [ho] at h5; exact h5
    obtain ⟨p1, p2, p3⟩ := Oper.apart_spec hap
    have hne : i ≠ i0 := by simpa using h6
    rw [List.length_cons, show r.length + 1 + ts.length + 1 = (r.length + ts.length + 1) + 1 by omega]
    refine wpAnyH_take (v := v) ho hsel h3 h4 (fun c a w => hQ c _ _ a w) (hy.of_same (execOp_put o (Region.noSelect_spec hsel i o · · ho) a (some d0) (ptr g) (fun d e => p1 d (hd.trans e))) (wanted_put o a (some d0) (ptr g) (fun d e => p1 d (hd.trans e)))) (hc.held _ hI) ?_
    rw [Array.setIfInBounds_comm _ _ (Ne.symm hne), Act.put_comm a (x := some d0) (y := o.dst) (ptr g) v (fun d e => p2 d (hd.trans e))]
    exact done_of hsel hQ hd ha0 hs has hfin r _ _ I w g h7 hc hI hg hb hr
  | (false, i) :: r, l, a, I, w, g, hok, hc, hI, hg, hb, h => by
    simp only [chainOk, Bool.and_eq_true, beq_iff_eq] at hok
    obtain ⟨⟨⟨⟨h1, h2⟩, h5⟩, h6⟩, h7⟩ := hok
    obtain ⟨o, ho, hgd, hr⟩ := h
    have hap : oa.apart ops o = true := by unfold apartAt at h5; rw [ho] at h5; exact h5
    obtain ⟨p1, p2, p3⟩ := Oper.apart_spec hap
    have hne : i ≠ i0 := by simpa using h6
    rw [List.length_cons, show r.length + 1 + ts.length + 1 = (r.length + ts.length + 1) + 1 by omega]
    refine wpAnyH_all h2 (by simp) fun j hj => ?_
    obtain rfl : j = i := by simpa using hj
    refine wpOp_upon (R := fun v w' => Below w.heap.size w w' ∧ ∃ I', Clo n0 obj S I' ∧ I' w' ∧ chainA P ops S n0 obj (atEnd n0 obj fin) r (a.put o.dst v) I') ho hgd (by rw [execOp_put o (Region.noSelect_spec hsel _ o · · ho) a (some d0) (ptr g) (fun d e => p1 d (hd.trans e))]; exact hr w hI) fun v w' ⟨hbw, I', hc', hI', hr'⟩ => ?_
    refine ⟨hc'.held _ hI', ?_⟩
    rw [Array.setIfInBounds_comm _ _ (Ne.symm hne), Act.put_comm a (x := some d0) (y := o.dst) (ptr g) v (fun d e => p2 d (hd.trans e))]
    have hlt : g < w.heap.size := by
      rcases Nat.lt_or_ge g w.heap.size with h1 | h1
      · exact h1
      · rw [Array.getElem?_eq_none h1] at hb; cases hb
    exact done_of hsel hQ hd ha0 hs has hfin r _ _ I' w' g h7 hc' hI' hg ((hbw.block g hlt).trans hb) hr'

theorem yet_of (hsel : Region.noSelect ops = true) (hQ : ∀ c (d : Option Tmp) v a w, Q (.panic c) (a.put d v) w → Q (.panic c) a w) (hd : oa.dst = some d0)
    (ha0 : ops[i0]? = some oa) (hs : ∃ os, ops[s]? = some os ∧ os.guard = none)
    (has : assigns ops ts = true) (hfin : ∀ a w g, fin a w g → wpOp P ops Q s (fun a' w' => S w' ∧ ∃ a'', runsTo ts a' a'' ∧ Q .normal a'' w') (a.put (some d0) (ptr g)) w)
    (hga : oa.guard = none) (hal : ∀ (a : Act) (w : World), (execOp a.eval oa).run P w = .ok (.value (ptr w.heap.size)) (w.alloc obj)) :
    ∀ (r : List (Bool × Nat)) (l : Array Bool) (a : Act) (I : World → Prop) (w : World), chainOk md ops oa i0 s ts r l = true → Clo n0 obj S I → I w →
      chainA P ops S n0 obj (atEnd n0 obj fin) r a I → wpAnyH P md ops Q S (r.length + ts.length + 1 + 1) l a w := by
  have al : ∀ (r : List (Bool × Nat)) (l : Array Bool) (a : Act) (I : World → Prop) (w : World), chainOk md ops oa i0 s ts r l = true → Clo n0 obj S I → I w →
      chainA P ops S n0 obj (atEnd n0 obj fin) r a I → wpOp P ops Q i0 (fun a' w' => S w' ∧ wpAnyH P md ops Q S (r.length + ts.length + 1) (l.setIfInBounds i0 true) a' w') a w := by
    intro r l a I w hok hc hI h
    refine wpOp_upon (R := fun v w' => v = ptr w.heap.size ∧ w' = w.alloc obj) ha0 hga (by rw [hal]; exact ⟨rfl, rfl⟩) ?_
    rintro v w' ⟨rfl, rfl⟩
    rw [hd]
    exact ⟨hc.held _ (hc.grow _ hI), done_of hsel hQ hd ha0 hs has hfin r l a I _ _ hok hc (hc.grow _ hI) (hc.big _ hI) (heap_alloc_new _ _) h⟩
  intro r
  induction r with
  | nil =>
    intro l a I w hok hc hI h
    have hok' := hok
    simp only [chainOk, Bool.and_eq_true, beq_iff_eq] at hok'
    refine wpAnyH_all hok'.1.1 (by simp) fun j hj => ?_
    obtain rfl : j = i0 := by simpa using hj
    exact al [] l a I w hok hc hI h
  | cons x r ih =>
    obtain ⟨b, i⟩ := x
    intro l a I w hok hc hI h
    cases b with
    | true =>
      simp only [chainOk, Bool.and_eq_true] at hok
      obtain ⟨⟨⟨⟨⟨⟨h1, h2⟩, h3⟩, h4⟩, h5⟩, h6⟩, h7⟩ := hok
      obtain ⟨o, v, ho, hy, hr⟩ := h
      rw [List.length_cons, show r.length + 1 + ts.length + 1 + 1 = (r.length + ts.length + 1 + 1) + 1 by omega]
      exact wpAnyH_take (v := v) ho hsel h1 h2 (fun c a w => hQ c _ _ a w) hy (hc.held _ hI) (ih _ _ I w h7 hc hI hr)
    | false =>
      have hok0 := hok
      simp only [chainOk, Bool.and_eq_true, Bool.or_eq_true, beq_iff_eq] at hok
      obtain ⟨⟨⟨⟨h1, h2⟩, h5⟩, h6⟩, h7⟩ := hok
      have h0 := h
      obtain ⟨o, ho, hgd, hr⟩ := h
      have one : wpOp P ops Q i (fun a' w' => S w' ∧ wpAnyH P md ops Q S (r.length + ts.length + 1 + 1) (l.setIfInBounds i true) a' w') a w :=
        wpOp_upon ho hgd (hr w hI) fun v w' ⟨hbw, I', hc', hI', hr'⟩ => ⟨hc'.held _ hI', ih _ _ I' w' h7 hc' hI' hr'⟩
      have two := al ((false, i) :: r) l a I w hok0 hc hI h0
      rw [List.length_cons, show r.length + 1 + ts.length + 1 = r.length + ts.length + 1 + 1 by omega] at two
      rw [List.length_cons, show r.length + 1 + ts.length + 1 + 1 = (r.length + ts.length + 1 + 1) + 1 by omega]
      rcases h1 with (h1 | h1) | h1
      · refine wpAnyH_all h1 (by simp) fun j hj => ?_
        obtain rfl : j = i := by simpa using hj
        exact one
      · refine wpAnyH_all h1 (by simp) fun j hj => ?_
        simp only [List.mem_cons, List.not_mem_nil, or_false] at hj
        rcases hj with rfl | rfl
        · exact one
        · exact two
      · refine wpAnyH_all h1 (by simp) fun j hj => ?_
        simp only [List.mem_cons, List.not_mem_nil, or_false] at hj
        rcases hj with rfl | rfl
        · exact two
        · exact one

theorem chainA_mono {P : Program} {ops : Array Oper} {S : World → Prop} {n0 : Nat} {obj : Obj} {fin fin' : Act → (World → Prop) → Prop} (hf : ∀ a I, (∀ w, I w → S w) → fin a I → fin' a I) :
    ∀ (r : List (Bool × Nat)) (a : Act) (I : World → Prop), (∀ w, I w → S w) → chainA P ops S n0 obj fin r a I → chainA P ops S n0 obj fin' r a I
  | [], a, I, hc, h => hf a I hc h
  | (true, i) :: r, a, I, hc, ⟨o, v, ho, hy, hr⟩ => ⟨o, v, ho, hy, chainA_mono hf r _ I hc hr⟩
  | (false, i) :: r, a, I, hc, ⟨o, ho, hg, hr⟩ => ⟨o, ho, hg, fun w hw => by
      have h := hr w hw
      generalize (execOp a.eval o).run P w = q at h ⊢
      cases q with
      | ok n w' =>
        cases n <;> simp only [Upon] at h ⊢
        case value v => obtain ⟨hb, I', c, i1, i2⟩ := h; exact ⟨hb, I', c, i1, chainA_mono hf r _ I' c.held i2⟩
        case enter f args => exact h.mono fun e w'' ⟨v, he, hb, I', c, i1, i2⟩ => ⟨v, he, hb, I', c, i1, chainA_mono hf r _ I' c.held i2⟩
      | halt x w' => simp only [Upon] at h⟩
/-- A region without a new block. -/
def chainOkP (md : Region.Mode) (ops : Array Oper) : List (Bool × Nat) → Array Bool → Bool
  | [], l => Region.ready md ops l == []
  | (true, i) :: r, l => Region.free md ops l i && (Region.ready md ops l).contains i && chainOkP md ops r (l.setIfInBounds i true)
  | (false, i) :: r, l => (Region.ready md ops l == [i]) && chainOkP md ops r (l.setIfInBounds i true)
theorem plain_of {fp : Act → World → Prop} (hsel : Region.noSelect ops = true) (hQ : ∀ c (d : Option Tmp) v a w, Q (.panic c) (a.put d v) w → Q (.panic c) a w) (hfin : ∀ a w, fp a w → Q .normal a w) :
    ∀ (r : List (Bool × Nat)) (l : Array Bool) (a : Act) (I : World → Prop) (w : World), chainOkP md ops r l = true → (∀ w, I w → S w) → I w →
      chainA P ops S n0 obj (atEndP fp) r a I → wpAnyH P md ops Q S r.length l a w
  | [], l, a, I, w, hok, hc, hI, h => wpAnyH_done (by simpa [chainOkP] using hok) (hfin _ _ (h w hI)) 0
  | (true, i) :: r, l, a, I, w, hok, hc, hI, h => by
    simp only [chainOkP, Bool.and_eq_true] at hok
    obtain ⟨⟨h1, h2⟩, h7⟩ := hok
    obtain ⟨o, v, ho, hy, hr⟩ := h
    exact wpAnyH_take (v := v) ho hsel h1 h2 (fun c a w => hQ c _ _ a w) hy (hc _ hI) (plain_of hsel hQ hfin r _ _ I w h7 hc hI hr)
  | (false, i) :: r, l, a, I, w, hok, hc, hI, h => by
    simp only [chainOkP, Bool.and_eq_true, beq_iff_eq] at hok
    obtain ⟨h1, h7⟩ := hok
    obtain ⟨o, ho, hgd, hr⟩ := h
    refine wpAnyH_all h1 (by simp) fun j hj => ?_
    obtain rfl : j = i := by simpa using hj
    exact wpOp_upon ho hgd (hr w hI) fun v w' ⟨hbw, I', hc', hI', hr'⟩ => ⟨hc'.held _ hI', plain_of hsel hQ hfin r _ _ I' w' h7 hc'.held hI' hr'⟩
/-- THE LAW of a region without a new block. -/
theorem region_plain {id : Nat} {a : Act} {w : World} (r : List (Bool × Nat)) (n0 : Nat) (obj : Obj) (S I : World → Prop)
    (hm : P.follows .mixedOrders = true) (hok : chainOkP .any ops r (Array.replicate ops.size false) = true) (hlen : ops.size = r.length) (hsel : Region.noSelect ops = true)
    (hc : ∀ w, I w → S w) (hI : I w.drew) (h : chainA P ops S n0 obj (atEndP (Q .normal)) r a I) : (Code.region id ops true).wp P Q a w := by
  refine wp_region_noPanic (wp_region_held hm (S := S) ?_)
  have k := plain_of (md := .any) (Q := NoPanic Q) hsel (fun _ _ _ _ _ h => h) (fun a w h => NoPanic.normal h) r _ a I _ hok hc hI h
  rw [← hlen] at k
  exact k
/-- A region whose last operation stores into a block that was there. -/
def chainOkS (md : Region.Mode) (ops : Array Oper) (s : Nat) : List (Bool × Nat) → Array Bool → Bool
  | [], l => (Region.ready md ops l == [s]) && (Region.ready md ops (l.setIfInBounds s true) == [])
  | (true, i) :: r, l => Region.free md ops l i && (Region.ready md ops l).contains i && chainOkS md ops s r (l.setIfInBounds i true)
  | (false, i) :: r, l => (Region.ready md ops l == [i]) && chainOkS md ops s r (l.setIfInBounds i true)
theorem store_of {fp : Act → World → Prop} {s : Nat} (hsel : Region.noSelect ops = true) (hQ : ∀ c (d : Option Tmp) v a w, Q (.panic c) (a.put d v) w → Q (.panic c) a w)
    (hfin : ∀ a w, fp a w → wpOp P ops Q s (fun a' w' => S w' ∧ Q .normal a' w') a w) :
    ∀ (r : List (Bool × Nat)) (l : Array Bool) (a : Act) (I : World → Prop) (w : World), chainOkS md ops s r l = true → (∀ w, I w → S w) → I w →
      chainA P ops S n0 obj (atEndP fp) r a I → wpAnyH P md ops Q S (r.length + 1) l a w
  | [], l, a, I, w, hok, hc, hI, h => by
    simp only [chainOkS, Bool.and_eq_true, beq_iff_eq] at hok
    refine wpAnyH_all hok.1 (by simp) fun i hi => ?_
    obtain rfl : i = s := by simpa using hi
    exact wpOp_mono (fun a' w' hh => ⟨hh.1, wpAnyH_done hok.2 hh.2 0⟩) (hfin _ _ (h w hI))
  | (true, i) :: r, l, a, I, w, hok, hc, hI, h => by
    simp only [chainOkS, Bool.and_eq_true] at hok
    obtain ⟨⟨h1, h2⟩, h7⟩ := hok
    obtain ⟨o, v, ho, hy, hr⟩ := h
    exact wpAnyH_take (v := v) ho hsel h1 h2 (fun c a w => hQ c _ _ a w) hy (hc _ hI) (store_of hsel hQ hfin r _ _ I w h7 hc hI hr)
  | (false, i) :: r, l, a, I, w, hok, hc, hI, h => by
    simp only [chainOkS, Bool.and_eq_true, beq_iff_eq] at hok
    obtain ⟨h1, h7⟩ := hok
    obtain ⟨o, ho, hgd, hr⟩ := h
    refine wpAnyH_all h1 (by simp) fun j hj => ?_
    obtain rfl : j = i := by simpa using hj
    exact wpOp_upon ho hgd (hr w hI) fun v w' ⟨hbw, I', hc', hI', hr'⟩ => ⟨hc'.held _ hI', store_of hsel hQ hfin r _ _ I' w' h7 hc'.held hI' hr'⟩
/-- THE LAW of a region whose last operation stores one cell. -/
theorem region_store {id : Nat} {a : Act} {w : World} (r : List (Bool × Nat)) (s : Nat) (os : Oper) (n0 : Nat) (obj : Obj) (S I : World → Prop)
    (hm : P.follows .mixedOrders = true) (hok : chainOkS .any ops s r (Array.replicate ops.size false) = true) (hlen : ops.size = r.length + 1) (hsel : Region.noSelect ops = true)
    (hs0 : ops[s]? = some os) (hgs : os.guard = none) (hds : os.dst = none) (hc : ∀ w, I w → S w) (hI : I w.drew)
    (h : chainA P ops S n0 obj (atEndP fun a w => ∃ w', (execOp a.eval os).run P w = .ok .skip w' ∧ S w' ∧ Q .normal a w') r a I) : (Code.region id ops true).wp P Q a w := by
  refine wp_region_noPanic (wp_region_held hm (S := S) ?_)
  have k := store_of (md := .any) (Q := NoPanic Q) (S := S) (s := s) hsel (fun _ _ _ _ _ h => h) ?_ r _ a I _ hok hc hI h
  · rw [← hlen] at k; exact k
  · rintro a w ⟨w', e1, e2, e3⟩
    unfold wpOp
    simp only [hs0, wanted_of hgs, if_true]
    refine .inl ?_
    unfold Oper.wp
    rw [e1]
    show S w' ∧ NoPanic Q .normal (a.put os.dst undef) w'
    rw [hds]
    exact ⟨e2, NoPanic.normal e3⟩
/-- THE LAW. -/
theorem region_alloc {id : Nat} {a : Act} {w : World} (r : List (Bool × Nat)) (i0 s d0 : Nat) (ts : List (Nat × Tmp × Tmp)) (oa os : Oper) (obj : Obj) (cells : List Value) (n0 : Nat) (S I : World → Prop) (T : TypeId) (x y : Operand)
    (hm : P.follows .mixedOrders = true) (hok : chainOk .any ops oa i0 s ts r (Array.replicate ops.size false) = true) (hlen : ops.size = r.length + ts.length + 1 + 1) (has : assigns ops ts = true) (hsel : Region.noSelect ops = true)
    (ha0 : ops[i0]? = some oa) (hga : oa.guard = none) (hd : oa.dst = some d0) (hal : ∀ (a : Act) (w : World), (execOp a.eval oa).run P w = .ok (.value (ptr w.heap.size)) (w.alloc obj))
    (hs0 : ops[s]? = some os) (hgs : os.guard = none) (hds : os.dst = none) (hos : os.op = .store T (.tmp d0) y) 
    (hc : Clo n0 obj S I) (hI : I w.drew)
    (h : chainA P ops S n0 obj (atEnd n0 obj fun a w g => ∃ cells : Array Value, (a.put (some d0) (ptr g)).eval (.tmp d0) = ptr g ∧ (a.put (some d0) (ptr g)).eval y = .agg cells ∧ w.there g 0 cells.size ∧ (P.info? T).map (·.size) = some cells.size ∧ cells.all (·.oneCell') = true ∧ S (w.setCells g 0 cells.toList) ∧ ∃ a'', runsTo ts (a.put (some d0) (ptr g)) a'' ∧ Q .normal a'' (w.setCells g 0 cells.toList)) r a I) :
    (Code.region id ops true).wp P Q a w := by
  refine wp_region_noPanic (wp_region_held hm (S := S) ?_)
  have k := yet_of (md := .any) (Q := NoPanic Q) hsel (fun _ _ _ _ _ h => h) hd ha0 ⟨os, hs0, hgs⟩ has ?_ hga hal r _ a I _ hok hc hI h
  · rw [← hlen] at k; exact k
  rintro a w g ⟨cells, e1, e2, h1, h2, h3, h4, a'', h5, h6⟩
  unfold wpOp
  simp only [hs0, wanted_of hgs, if_true]
  refine .inl (wp_store_mid T (.tmp d0) y hos g 0 cells e1 e2 h1 h2 h3 ?_)
  rw [hds]
  exact ⟨h4, a'', h5, NoPanic.normal h6⟩
end
end Go.Proofs.Ytjanphcfflahkaa.reg

/- Steps through a region that draws its order: loads, calls, what is told at once. -/
namespace Go.Proofs.Ytjanphcfflahkaa.reg
open Go.RowKit
open cards
set_option linter.unusedVariables false

def BI (W : World) (w' : World) : Prop := Below W.heap.size W w'
theorem clo_BI (W : World) (obj : Obj) : Clo W.heap.size obj (BI W) (BI W) := ⟨fun _ h => h, fun _ h => h.size, fun _ h => Below.alloc h h.size _⟩
theorem BI.next {W w w' : World} (h : BI W w) (b : Below w.heap.size w w') : BI W w' := Below.trans h (b.mono h.size)
theorem BI.start (W : World) : BI W W.drew := (Below.refl _ _).drew
section
variable {ops : Array Oper} {Q : Exit → Act → World → Prop} {n0 : Nat} {obj : Obj} {fin : Act → (World → Prop) → Prop} {S : World → Prop}
theorem chain_call (d : Tmp) {i : Nat} {r : List (Bool × Nat)} {a : Act} {W : World} {f : FuncId} {args : Array Value} {v : Value} {o : Oper} (ho : ops[i]? = some o) (hd : o.dst = some d) (hg : o.guard = none)
    (he : ∀ w, (execOp a.eval o).run Try.prog w = .ok (.enter f args) w) (h : ∀ w, BI W w → Calls Try.prog f args w (fun e w' => e = .returned v ∧ Below w.heap.size w w'))
    (hr : chainA Try.prog ops (BI W) W.heap.size obj fin r (a.put (some d) v) (BI W)) : chainA Try.prog ops (BI W) W.heap.size obj fin ((false, i) :: r) a (BI W) :=
  ⟨o, ho, hg, fun w hI => by
    rw [he]
    exact (h w hI).mono fun e w' ⟨h1, h2⟩ => ⟨v, h1, h2, BI W, clo_BI W obj, BI.next hI h2, hd ▸ hr⟩⟩
/-- A call whose answer is not told by its arguments alone. -/
theorem chain_callE (d : Tmp) {i : Nat} {r : List (Bool × Nat)} {a : Act} {I : World → Prop} {f : FuncId} {args : Array Value} {o : Oper} (ho : ops[i]? = some o) (hd : o.dst = some d) (hg : o.guard = none)
    (he : ∀ w, (execOp a.eval o).run Try.prog w = .ok (.enter f args) w)
    (h : ∀ w, I w → Calls Try.prog f args w (fun e w' => ∃ v, e = .returned v ∧ Below w.heap.size w w' ∧ ∃ I', Clo n0 obj S I' ∧ I' w' ∧ chainA Try.prog ops S n0 obj fin r (a.put (some d) v) I')) : chainA Try.prog ops S n0 obj fin ((false, i) :: r) a I :=
  ⟨o, ho, hg, fun w hI => by
    rw [he]
    exact (h w hI).mono fun e w' ⟨v, h1, h2, h3⟩ => ⟨v, h1, h2, hd ▸ h3⟩⟩
theorem chain_pure (d : Tmp) {i : Nat} {r : List (Bool × Nat)} {a : Act} {I : World → Prop} {v : Value} {o : Oper} (ho : ops[i]? = some o) (hd : o.dst = some d) (hg : o.guard = none)
    (he : ∀ w, (execOp a.eval o).run Try.prog w = .ok (.value v) w)
    (hr : chainA Try.prog ops S n0 obj fin r (a.put (some d) v) I) : chainA Try.prog ops S n0 obj fin ((true, i) :: r) a I :=
  ⟨o, v, ho, .inl ⟨wanted_of hg, fun w _ => he w⟩, hd ▸ hr⟩
theorem chain_load (d : Tmp) {i : Nat} {r : List (Bool × Nat)} {a : Act} {I : World → Prop} {o : Oper} (ho : ops[i]? = some o) (hd : o.dst = some d) (hg : o.guard = none)
    (T : TypeId) (x : Operand) (hx : o.op = .load T x) {g : Nat} (hp : a.eval x = .pointer (some ⟨g, 0, none⟩)) {t : TypeId} (cs : Array Value) {D : TypeDesc} (hS : ∀ w, S w → w.heap[g]? = some (.cells cs t))
    (hu : Try.prog.underlying T = some D) (hD : D.isRow = true) (hi : (Try.prog.info? T).map (·.size) = some cs.size)
    (hr : chainA Try.prog ops S n0 obj fin r (a.put (some d) (.agg cs)) I) : chainA Try.prog ops S n0 obj fin ((true, i) :: r) a I :=
  ⟨o, .agg cs, ho, yieldsIf_load_mid (wanted_of hg) T x hx g 0 hp cs.toList D (fun w hw j v hv => by rw [cell_of_row w g _ _ _ _ (hS w hw), Nat.zero_add]; simpa using hv) hu hD (by simpa using hi), hd ▸ hr⟩
end
section
variable {ops : Array Oper} {Q : Exit → Act → World → Prop}
/-- A region without a new block: what is known is that nothing has turned. -/
theorem region_BI {id : Nat} {a : Act} {W : World} (r : List (Bool × Nat))
    (hok : chainOkP .any ops r (Array.replicate ops.size false) = true) (hlen : ops.size = r.length) (hsel : Region.noSelect ops = true)
    (h : chainA Try.prog ops (BI W) W.heap.size zero.obj (atEndP (Q .normal)) r a (BI W)) : (Code.region id ops true).wp Try.prog Q a W :=
  region_plain r W.heap.size zero.obj (BI W) (BI W) (by kernel_rfl) hok hlen hsel (fun _ h => h) (BI.start W) h
end
end Go.Proofs.Ytjanphcfflahkaa.reg

/- Blocks that hold an array of whatever type: what is known of them is the whole row of their cells. -/
namespace Go.Proofs.Ytjanphcfflahkaa.cards
open Go.RowKit
open reg
set_option linter.unusedVariables false

/-- Block g holds just these cells. -/
def VB (w : World) (g : Nat) (T : TypeId) (cs : Array Value) : Prop := w.heap[g]? = some (.cells cs T)
section
variable {w w1 : World} {g : Nat} {T : TypeId} {cs : Array Value}
theorem VB.lt (h : VB w g T cs) : g < w.heap.size := (Array.getElem?_eq_some_iff.1 h).1
theorem VB.newAt {o : Obj} (h : w.heap.size = g) (ho : o = .cells cs T) : VB (w.alloc o) g T cs := by subst h; subst ho; exact heap_alloc_new w _
theorem VB.alloc (h : VB w g T cs) (o : Obj) : VB (w.alloc o) g T cs := (Below.heap_alloc w o g h.lt).trans h
theorem VB.drew (h : VB w g T cs) : VB w.drew g T cs := h
theorem VB.drewN (h : VB w g T cs) (n : Nat) : VB (w.drewN n) g T cs := h
theorem VB.below (h : VB w g T cs) (b : Below w.heap.size w w1) : VB w1 g T cs := (b.block g h.lt).trans h
theorem VB.under {B : Nat} (h : VB w g T cs) (hg : g < B) (b : Below B w w1) : VB w1 g T cs := (b.block g hg).trans h
theorem VB.frozen (h : VB w g T cs) : ∀ i, w.frozen? ⟨g, i, none⟩ = false := fun i => frozen_of_row w g i _ _ h
theorem VB.far (h : VB w g T cs) {p : Addr} (hp : g ≠ p.block) (u : Value) : VB (w.setCell p u) g T cs := (Below.heap_setCell w p u g hp).trans h
theorem VB.marked {row : Option Nat} (h : VB w g T cs) (hg : w.grownBy w1 row) (h2 : row ≠ some g) : VB w1 g T cs := (hg.block g h.lt (Ne.symm h2)).trans h
theorem VB.at_ (h : VB w g T cs) {j : Nat} {v : Value} (hj : cs[j]? = some v) : w.cell? ⟨g, j, none⟩ = some v := by
  unfold VB at h; rw [cell_of_row w g j _ _ _ h]; exact hj
theorem VB.set_ (h : VB w g T cs) {cs' : Array Value} {j : Nat} {v : Value} (hc : cs.set! j v = cs') : VB (w.setCell ⟨g, j, none⟩ v) g T cs' := by
  unfold VB at h ⊢
  rw [heap_setCell_same _ g j _ _ _ h, ← hc]; rfl
theorem VB.there (h : VB w g T cs) : w.there g 0 cs.size := fun j hj => ⟨by rw [Nat.zero_add, h.at_ (Array.getElem?_eq_getElem hj)]; rfl, h.frozen _⟩
end
theorem setCells_row : ∀ (vs : List Value) (o : Nat) (w : World) (g : Nat) (cs : Array Value) (t : TypeId), w.heap[g]? = some (.cells cs t) → ∃ cs', (w.setCells g o vs).heap[g]? = some (.cells cs' t) ∧ cs'.size = cs.size ∧ ∀ i, cs'[i]? = if o ≤ i ∧ i < o + vs.length ∧ i < cs.size then vs[i - o]? else cs[i]?
  | [], o, w, g, cs, t, h => ⟨cs, h, rfl, fun i => by rw [if_neg (by simp; omega)]⟩
  | v :: r, o, w, g, cs, t, h => by
    obtain ⟨cs', h1, h2, h3⟩ := setCells_row r (o + 1) (w.setCell ⟨g, o, none⟩ v) g (cs.set! o v) t (heap_setCell_same _ g o _ _ _ h)
    refine ⟨cs', h1, by rw [h2]; simp, fun i => ?_⟩
    rw [h3 i]
    have hs : (cs.set! o v).size = cs.size := by simp
    rw [hs]
    by_cases e1 : o + 1 ≤ i ∧ i < o + 1 + r.length ∧ i < cs.size
    · rw [if_pos e1, if_pos (by simp; omega), show i - o = (i - (o + 1)) + 1 by omega]; rfl
    · rw [if_neg e1]
      by_cases e2 : o ≤ i ∧ i < o + (v :: r).length ∧ i < cs.size
      · obtain rfl : i = o := by simp at e2; omega
        rw [if_pos e2, Nat.sub_self]
        simp [e2.2.2]
      · rw [if_neg e2]
        rw [Array.set!_eq_setIfInBounds, Array.getElem?_setIfInBounds]
        by_cases e3 : o = i
        · subst e3
          have : ¬ o < cs.size := by simp at e2; omega
          simp [this]
        · simp [e3]
theorem VB.stored {w : World} {g : Nat} {T : TypeId} {cs cs2 : Array Value} (h : VB w g T cs) (hs : cs2.size = cs.size) : VB (w.setCells g 0 cs2.toList) g T cs2 := by
  obtain ⟨cs', h1, h2, h3⟩ := setCells_row cs2.toList 0 w g _ _ h
  unfold VB
  rw [h1]
  have : cs' = cs2 := Array.ext_getElem? (fun i => by
    rw [h3 i]
    by_cases hi : i < cs.size
    · rw [if_pos (by simp; omega)]; simp
    · rw [if_neg (by omega), Array.getElem?_eq_none (by omega), Array.getElem?_eq_none (by omega)])
  rw [this]
theorem VB.load {w : World} {g : Nat} {T : TypeId} {cs : Array Value} (h : VB w g T cs) {K : Nat} {e : TypeId} (hu : (Try.prog).underlying T = some (.array K e)) (hi : ((Try.prog).info? T).map (·.size) = some cs.size) : (loadVar T ⟨g, 0, none⟩).run Try.prog w = .ok (.agg cs) w :=
  run_loadVar_row w g T T cs (0, 0) _ h hu rfl hi
theorem take_vb {ops : Array Oper} {rest : List Oper} {o : Oper} {a : Act} {w : World} {Q : Exit → Act → World → Prop} (hgd : o.guard = none) (T : TypeId) (x : Operand) (ho : o.op = .load T x) {g : Nat} {cs : Array Value} (h : VB w g T cs) {K : Nat} {e : TypeId} (hu : (Try.prog).underlying T = some (.array K e)) (hi : ((Try.prog).info? T).map (·.size) = some cs.size)
    (hx : a.eval x = .pointer (some ⟨g, 0, none⟩)) (hk : wpList Try.prog ops Q rest (a.put o.dst (.agg cs)) w) : wpList Try.prog ops Q (o :: rest) a w :=
  wpList_load_row hgd T x ho g hx T cs (0, 0) _ h hu rfl hi hk
theorem grown_setV (w : World) (g i : Nat) (v : Value) : w.grownBy (w.setCell ⟨g, i, none⟩ v) (some g) :=
  ⟨rfl, rfl, rfl, by simp [World.setCell], fun k hk hne => Below.heap_setCell _ _ _ _ (fun e => hne (by rw [e]))⟩
theorem grown_setsV (g : Nat) : ∀ (vs : List Value) (o : Nat) (w : World), w.grownBy (w.setCells g o vs) (some g)
  | [], o, w => World.grownBy.refl w _
  | v :: r, o, w => World.grownBy.trans (grown_setV w g o v) (grown_setsV g r (o + 1) _)
theorem store_vb {ops : Array Oper} {rest : List Oper} {o : Oper} {a : Act} {w : World} {Q : Exit → Act → World → Prop} (hgd : o.guard = none) (T : TypeId) (x y : Operand) (ho : o.op = .store T x y) {g : Nat} {cs : Array Value} (h : VB w g T cs) (hi : ((Try.prog).info? T).map (·.size) = some cs.size) (hx : a.eval x = .pointer (some ⟨g, 0, none⟩))
    (cs2 : Array Value) (hs : cs2.size = cs.size) (h1 : cs2.all (·.oneCell') = true) (hy : a.eval y = .agg cs2) (hk : ∀ w', VB w' g T cs2 → w.grownBy w' (some g) → wpList Try.prog ops Q rest (a.put o.dst undef) w') : wpList Try.prog ops Q (o :: rest) a w :=
  wpList_store_mid hgd T x y ho g 0 cs2 hx hy (by rw [hs]; exact h.there) (by rw [hs]; exact hi) h1 (hk _ (VB.stored h hs) (grown_setsV g _ _ _))
theorem res_vb {fn : Func} {i : Tmp} {T : TypeId} (hf : fn.results = #[.cell i T]) {tmps : Array Value} {w : World} {g : Nat} {cs : Array Value} (ht : tmps.getD i undef = .pointer (some ⟨g, 0, none⟩)) (h : VB w g T cs) {K : Nat} {e : TypeId} (hu : (Try.prog).underlying T = some (.array K e)) (hi : ((Try.prog).info? T).map (·.size) = some cs.size) :
    (results fn tmps).run Try.prog w = .ok (.agg cs) w := by
  have hl := h.load hu hi
  rw [Array.getD_eq_getD_getElem?] at ht
  simp only [results, hf]
  simp [ht, asAddr, hl]
theorem res_vb2 {fn : Func} {i u : Tmp} {T : TypeId} (hf : fn.results = #[.cell i T, .tmp u]) {tmps : Array Value} {w : World} {g : Nat} {cs : Array Value} (ht : tmps.getD i undef = .pointer (some ⟨g, 0, none⟩)) (h : VB w g T cs) {K : Nat} {e : TypeId} (hu : (Try.prog).underlying T = some (.array K e)) (hi : ((Try.prog).info? T).map (·.size) = some cs.size) :
    (results fn tmps).run Try.prog w = .ok (.tuple #[.agg cs, tmps.getD u undef]) w := by
  have hl := h.load hu hi
  rw [results_cell_tmp hf, ht]
  simp [asAddr, hl, Result.andThen]
/-! Single operations, for regions that draw their order. -/
theorem exec_indexN {T : TypeId} {N : Nat} {a : Act} {o : Oper} {p q : Operand} (ho : o.op = .indexAddr T p q) {g : Nat} (hp : a.eval p = .pointer (some ⟨g, 0, none⟩)) (hq : a.eval q = .int .i64 N)
    (hrun : ∀ w : World, (Instr.indexAt T (.pointer (some ⟨g, 0, none⟩)) (.int .i64 N)).run Try.prog w = .ok (.pointer (some ⟨g, N, none⟩)) w) (w : World) :
    (execOp a.eval o).run Try.prog w = .ok (.value (.pointer (some ⟨g, N, none⟩))) w := by
  unfold execOp
  rw [ho]
  simp only [hp, hq]
  simp [hrun, Result.andThen]
theorem exec_add1 {v : Int} (hv : 0 ≤ v ∧ v ≤ 1000000) {a : Act} {o : Oper} {p : Operand} {s : TypeId} (ho : o.op = .binOp .add 3 p (.const (.int .i64 1)) s) (hp : a.eval p = .int .i64 v) (w : World) :
    (execOp a.eval o).run Try.prog w = .ok (.value (.int .i64 (v + 1))) w := by
  have h0 : (0 : Int) ≤ v := by omega
  have h1 : v ≤ 1000000 := by omega
  unfold execOp
  rw [ho]
  simp only [hp]
  go_simp
  exact IntWalk.i64_in _ (by omega)
theorem exec_storeI {a : Act} {o : Oper} {p q : Operand} (ho : o.op = .store 3 p q) {g j : Nat} {x v : Int} (hp : a.eval p = .pointer (some ⟨g, j, none⟩)) (hq : a.eval q = .int .i64 v) {w : World} (hc : w.cell? ⟨g, j, none⟩ = some (.int .i64 x)) (hf : w.frozen? ⟨g, j, none⟩ = false) :
    (execOp a.eval o).run Try.prog w = .ok .skip (w.setCell ⟨g, j, none⟩ (.int .i64 v)) := by
  unfold execOp
  rw [ho]
  simp only [hp, hq]
  go_simp
theorem exec_loadI {a : Act} {o : Oper} {p : Operand} (ho : o.op = .load 3 p) {g j : Nat} {x : Int} (hp : a.eval p = .pointer (some ⟨g, j, none⟩)) {w : World} (hc : w.cell? ⟨g, j, none⟩ = some (.int .i64 x)) :
    (execOp a.eval o).run Try.prog w = .ok (.value (.int .i64 x)) w := by
  unfold execOp
  rw [ho]
  simp only [hp]
  go_simp
/-- A number is read out of a cell, as an operation that is carried out. -/
theorem chain_loadI {ops : Array Oper} {S I : World → Prop} {n0 : Nat} {obj : Obj} {fin : Act → (World → Prop) → Prop} (d : Tmp) {i : Nat} {r : List (Bool × Nat)} {a : Act} {o : Oper} {p : Operand} {g j : Nat} {x : Int} (ho : ops[i]? = some o) (hd : o.dst = some d) (hg : o.guard = none) (hop : o.op = .load 3 p)
    (hp : a.eval p = .pointer (some ⟨g, j, none⟩)) (hc : ∀ w, I w → w.cell? ⟨g, j, none⟩ = some (.int .i64 x)) (hS : ∀ w, I w → S w) (hn : ∀ w, I w → n0 ≤ w.heap.size) (hal : ∀ w, I w → I (w.alloc obj))
    (hr : chainA Try.prog ops S n0 obj fin r (a.put (some d) (.int .i64 x)) I) : chainA Try.prog ops S n0 obj fin ((false, i) :: r) a I :=
  ⟨o, ho, hg, fun w hI => by
    rw [exec_loadI hop hp (hc w hI)]
    exact ⟨Below.refl _ _, I, ⟨hS, hn, hal⟩, hI, hd ▸ hr⟩⟩
end Go.Proofs.Ytjanphcfflahkaa.cards

/- Regions that draw their order and end in one store into a block that was there: what stays is all but that block. -/
namespace Go.Proofs.Ytjanphcfflahkaa.cards
open Go.RowKit
open reg
set_option linter.unusedVariables false

/-- All but block g is as it was. -/
def GS (W : World) (g : Nat) (w' : World) : Prop := W.grownBy w' (some g)
theorem BI.gs {W w' : World} (g : Nat) (h : BI W w') : GS W g w' := ⟨Below.os h, Below.tape h, Below.output h, Below.size h, fun j hj _ => Below.block h j hj⟩
theorem clo_GS (W : World) (g : Nat) (obj : Obj) : Clo W.heap.size obj (GS W g) (BI W) := ⟨fun _ h => BI.gs g h, fun _ h => Below.size h, fun _ h => Below.alloc h (Below.size h) _⟩
theorem GS.set_ {W w' : World} {g : Nat} (h : GS W g w') (j : Nat) (v : Value) : GS W g (w'.setCell ⟨g, j, none⟩ v) := World.grownBy.trans h (grown_setV _ _ _ _)
theorem GS.box {W w' : World} {g k : Nat} {x : Cd} (h : GS W g w') (hb : Box W k x) (hk : k ≠ g) : Box w' k x := (World.grownBy.block h k hb.lt (fun e => hk (by injection e))).trans hb
theorem GS.cell {W w' : World} {g b o : Nat} {v : Value} (h : GS W g w') (hc : W.cell? ⟨b, o, none⟩ = some v) (hb : b < W.heap.size) (hk : b ≠ g) : w'.cell? ⟨b, o, none⟩ = some v := by
  have e := World.grownBy.block h b hb (fun e => hk (by injection e))
  unfold World.cell? at hc ⊢
  rw [e]; exact hc
section
variable {ops : Array Oper} {Q : Exit → Act → World → Prop} {n0 : Nat} {obj : Obj} {fin : Act → (World → Prop) → Prop} {S : World → Prop}
theorem chain_callG (d : Tmp) {i : Nat} {r : List (Bool × Nat)} {a : Act} {W : World} {g : Nat} {f : FuncId} {args : Array Value} {v : Value} {o : Oper} (ho : ops[i]? = some o) (hd : o.dst = some d) (hg : o.guard = none)
    (he : ∀ w, (execOp a.eval o).run Try.prog w = .ok (.enter f args) w) (h : ∀ w, BI W w → Calls Try.prog f args w (fun e w' => e = .returned v ∧ Below w.heap.size w w'))
    (hr : chainA Try.prog ops (GS W g) W.heap.size obj fin r (a.put (some d) v) (BI W)) : chainA Try.prog ops (GS W g) W.heap.size obj fin ((false, i) :: r) a (BI W) :=
  ⟨o, ho, hg, fun w hI => by
    rw [he]
    exact (h w hI).mono fun e w' ⟨h1, h2⟩ => ⟨v, h1, h2, BI W, clo_GS W g obj, BI.next hI h2, hd ▸ hr⟩⟩
/-- A card is read out of a row. -/
theorem chain_card (d : Tmp) {i : Nat} {r : List (Bool × Nat)} {a : Act} {I : World → Prop} {o : Oper} (ho : ops[i]? = some o) (hd : o.dst = some d) (hg : o.guard = none)
    (x : Operand) (hx : o.op = .load 22 x) {g off : Nat} (hp : a.eval x = .pointer (some ⟨g, off, none⟩)) (c : Cd)
    (hS : ∀ w, S w → w.cell? ⟨g, off, none⟩ = some (.int .i64 c.a) ∧ w.cell? ⟨g, off + 1, none⟩ = some (.int .i64 c.b) ∧ w.cell? ⟨g, off + 2, none⟩ = some (.int .i64 c.c) ∧ w.cell? ⟨g, off + 3, none⟩ = some (.int .i64 c.d))
    (hr : chainA Try.prog ops S n0 obj fin r (a.put (some d) c.val) I) : chainA Try.prog ops S n0 obj fin ((true, i) :: r) a I :=
  ⟨o, c.val, ho, yieldsIf_load_mid (wanted_of hg) 22 x hx g off hp c.cells _ (fun w hw j v hv => by
    obtain ⟨h0, h1, h2, h3⟩ := hS w hw
    match j, hv with
    | 0, hv => simp [Cd.cells] at hv; rw [← hv]; exact h0
    | 1, hv => simp [Cd.cells] at hv; rw [← hv]; exact h1
    | 2, hv => simp [Cd.cells] at hv; rw [← hv]; exact h2
    | 3, hv => simp [Cd.cells] at hv; rw [← hv]; exact h3
    | n + 4, hv => simp [Cd.cells] at hv) Try.underlying22 rfl (by kernel_rfl), hd ▸ hr⟩
/-- THE LAW of a region that ends in a store of one cell into block g. -/
theorem region_storeG {id : Nat} {a : Act} {W : World} (g : Nat) (r : List (Bool × Nat)) (s : Nat) (os : Oper)
    (hok : chainOkS .any ops s r (Array.replicate ops.size false) = true) (hlen : ops.size = r.length + 1) (hsel : Region.noSelect ops = true)
    (hs0 : ops[s]? = some os) (hgs : os.guard = none) (hds : os.dst = none)
    (h : chainA Try.prog ops (GS W g) W.heap.size zero.obj (atEndP fun a w => ∃ w', (execOp a.eval os).run Try.prog w = .ok .skip w' ∧ GS W g w' ∧ Q .normal a w') r a (BI W)) : (Code.region id ops true).wp Try.prog Q a W :=
  region_store r s os W.heap.size zero.obj (GS W g) (BI W) (by kernel_rfl) hok hlen hsel hs0 hgs hds (fun _ h => BI.gs g h) (BI.start W) h
theorem exec_indexS {k n b ad cp : Nat} (hk : k < n) {a : Act} {o : Oper} {p q : Operand} (ho : o.op = .indexAddr 29 p q) (hp : a.eval p = .slice (some ⟨b, ad, none⟩) n cp) (hq : a.eval q = .int .i64 k) (w : World) :
    (execOp a.eval o).run Try.prog w = .ok (.value (.pointer (some ⟨b, ad + k * 4, none⟩))) w := by
  have h0 : (0 : Int) ≤ (k : Int) := by omega
  have h1 : (k : Int) < (n : Int) := by omega
  unfold execOp
  rw [ho]
  simp only [hp, hq]
  go_simp
theorem exec_index3 {N : Nat} (hN : N < 3) {a : Act} {o : Oper} {p q : Operand} (ho : o.op = .indexAddr 58 p q) {g : Nat} (hp : a.eval p = .pointer (some ⟨g, 0, none⟩)) (hq : a.eval q = .int .i64 N) (w : World) :
    (execOp a.eval o).run Try.prog w = .ok (.value (.pointer (some ⟨g, N, none⟩))) w := by
  have h0 : (0 : Int) ≤ (N : Int) := by omega
  have h1 : (N : Int) < 3 := by omega
  unfold execOp
  rw [ho]
  simp only [hp, hq]
  go_simp
/-- THE LAW of a region with a new block of an array of type T, into which the last operation stores. -/
theorem region_vb {id : Nat} {a : Act} {W : World} (T : TypeId) (cs0 : Array Value) (r : List (Bool × Nat)) (i0 s d0 : Nat) (ts : List (Nat × Tmp × Tmp)) (oa os : Oper) (t : Tmp)
    (hi : ((Try.prog).info? T).map (·.size) = some cs0.size) (hal : ∀ (w : World), (Instr.alloc T true (.tuple #[])).run Try.prog w = .ok (ptr w.heap.size) (w.alloc (.cells cs0 T)))
    (hok : chainOk .any ops oa i0 s ts r (Array.replicate ops.size false) = true) (hlen : ops.size = r.length + ts.length + 1 + 1) (has : assigns ops ts = true) (hsel : Region.noSelect ops = true)
    (ha0 : ops[i0]? = some oa) (hga : oa.guard = none) (hd : oa.dst = some d0) (hoa : oa.op = .alloc T)
    (hs0 : ops[s]? = some os) (hgs : os.guard = none) (hds : os.dst = none) (hos : os.op = .store T (.tmp d0) (.tmp t)) (hne : t ≠ d0) (hsz : d0 < a.tmps.size)
    (h : chainA Try.prog ops (BI W) W.heap.size (.cells cs0 T) (atEnd W.heap.size (.cells cs0 T) fun b w g => b.tmps.size = a.tmps.size ∧ ∃ cs : Array Value, b.eval (.tmp t) = .agg cs ∧ cs.size = cs0.size ∧ cs.all (·.oneCell') = true ∧ ∀ w', Hid (VB w' g T cs) → Below W.heap.size W w' → ∃ a', runsTo ts (b.put (some d0) (ptr g)) a' ∧ Q .normal a' w') r a (BI W)) :
    (Code.region id ops true).wp Try.prog Q a W := by
  refine region_alloc r i0 s d0 ts oa os (.cells cs0 T) [] W.heap.size (BI W) (BI W) T (.tmp d0) (.tmp t) (by kernel_rfl) hok hlen has hsel ha0 hga hd ?_ hs0 hgs hds hos (clo_BI W _) (BI.start W) ?_
  · intro a w
    unfold execOp
    rw [hoa]
    simp [hal w, Result.andThen]
  · refine chainA_mono ?_ r a _ (fun _ h => h) h
    intro b I hIS hh w g hI0 hg hb
    obtain ⟨hsb, cs, hm, h1, h2, hk⟩ := hh w g hI0 hg hb
    have hI := hIS w hI0
    have hB : VB w g T cs0 := hb
    have hw : BI W (w.setCells g 0 cs.toList) := Below.grown hI (grown_setsV g _ _ _) (Below.size hI) (fun k hk => by injection hk with hk; omega)
    refine ⟨cs, ?_, ?_, by rw [h1]; exact hB.there, by rw [h1]; exact hi, h2, hw, hk _ (Lib.hid (VB.stored hB h1)) hw⟩
    · show (b.tmps.setIfInBounds d0 (ptr g)).getD d0 undef = ptr g
      simp [hsb, hsz]
    · rw [Act.eval_put (by intro d hd he; cases hd; cases he; exact hne rfl)]; exact hm
end
end Go.Proofs.Ytjanphcfflahkaa.cards

/- A region that draws its order, with TWO new blocks among its operations: one walk serves all its orders. What stores stand at its end, one behind the other. -/
namespace Go.Proofs.Ytjanphcfflahkaa.cards
open Go.RowKit
open reg
set_option linter.unusedVariables false

section
variable {P : Program} {md : Region.Mode} {ops : Array Oper} {Q : Exit → Act → World → Prop}

def putO (a : Act) (d : Tmp) : Option Nat → Act
  | none => a
  | some g => a.put (some d) (ptr g)
/-- The activation, whichever of the two blocks are made. -/
def putT (a : Act) (d0 d1 : Tmp) (m0 m1 : Option Nat) : Act := putO (putO a d0 m0) d1 m1
theorem putO_put {a : Act} {d : Tmp} {m : Option Nat} {y : Option Tmp} {v : Value} (h : y ≠ some d) : (putO a d m).put y v = putO (a.put y v) d m := by
  cases m with
  | none => rfl
  | some g => exact Act.put_comm a (x := some d) (y := y) (ptr g) v (fun e he => by cases he; exact h)
theorem putT_put {a : Act} {d0 d1 : Tmp} {m0 m1 : Option Nat} {y : Option Tmp} {v : Value} (h0 : y ≠ some d0) (h1 : y ≠ some d1) : (putT a d0 d1 m0 m1).put y v = putT (a.put y v) d0 d1 m0 m1 := by
  unfold putT
  rw [putO_put h1, putO_put h0]
theorem exec_putO {o : Oper} (hs : ∀ cs b, o.op ≠ .select cs b) {a : Act} {d : Tmp} {m : Option Nat} (h : d ∉ o.looksAt ops) : execOp (putO a d m).eval o = execOp a.eval o := by
  cases m with
  | none => rfl
  | some g => exact execOp_put (ops := ops) o hs a (some d) (ptr g) (fun e he => by cases he; exact h)
theorem exec_putT {o : Oper} (hs : ∀ cs b, o.op ≠ .select cs b) {a : Act} {d0 d1 : Tmp} {m0 m1 : Option Nat} (h0 : d0 ∉ o.looksAt ops) (h1 : d1 ∉ o.looksAt ops) : execOp (putT a d0 d1 m0 m1).eval o = execOp a.eval o := by
  unfold putT
  rw [exec_putO hs h1, exec_putO hs h0]
theorem wanted_putO (o : Oper) {a : Act} {d : Tmp} {m : Option Nat} (h : d ∉ o.looksAt ops) : Region.wanted o (yielded ops (putO a d m).tmps) = Region.wanted o (yielded ops a.tmps) := by
  cases m with
  | none => rfl
  | some g => exact wanted_put o a (some d) (ptr g) (fun e he => by cases he; exact h)
theorem wanted_putT (o : Oper) {a : Act} {d0 d1 : Tmp} {m0 m1 : Option Nat} (h0 : d0 ∉ o.looksAt ops) (h1 : d1 ∉ o.looksAt ops) : Region.wanted o (yielded ops (putT a d0 d1 m0 m1).tmps) = Region.wanted o (yielded ops a.tmps) := by
  unfold putT
  rw [wanted_putO o h1, wanted_putO o h0]
/-- An operation that looks at neither slot and sets neither. -/
def farAt (ops : Array Oper) (d0 d1 : Tmp) (i : Nat) : Bool := match ops[i]? with
  | some o => !(o.looksAt ops).contains d0 && !(o.looksAt ops).contains d1 && o.dst != some d0 && o.dst != some d1
  | none => false
theorem farAt_spec {d0 d1 : Tmp} {i : Nat} {o : Oper} (h : farAt ops d0 d1 i = true) (ho : ops[i]? = some o) : d0 ∉ o.looksAt ops ∧ d1 ∉ o.looksAt ops ∧ o.dst ≠ some d0 ∧ o.dst ≠ some d1 := by
  unfold farAt at h
  rw [ho] at h
  simp only [Bool.and_eq_true, Bool.not_eq_true', bne_iff_ne] at h
  obtain ⟨⟨⟨h1, h2⟩, h3⟩, h4⟩ := h
  exact ⟨(fun hm => by rw [List.contains_iff_mem.2 hm] at h1; cases h1), (fun hm => by rw [List.contains_iff_mem.2 hm] at h2; cases h2), h3, h4⟩
def seqS (md : Region.Mode) (ops : Array Oper) : List Nat → Array Bool → Bool
  | [], l => Region.ready md ops l == []
  | j :: r, l => (Region.ready md ops l == [j]) && seqS md ops r (l.setIfInBounds j true)
/-- What comes at the end, one behind the other. -/
def runsS (P : Program) (ops : Array Oper) (S : World → Prop) (K : Act → World → Prop) : List Nat → Act → World → Prop
  | [], a, w => K a w
  | j :: r, a, w => ∃ o w' v, ops[j]? = some o ∧ o.guard = none ∧ ((execOp a.eval o).run P w = .ok (.value v) w' ∨ ((execOp a.eval o).run P w = .ok .skip w' ∧ v = undef)) ∧ S w' ∧ runsS P ops S K r (a.put o.dst v) w'
theorem seq_of {S : World → Prop} : ∀ (st : List Nat) (l : Array Bool) (a : Act) (w : World), seqS md ops st l = true → S w → runsS P ops S (Q .normal) st a w → wpAnyH P md ops Q S st.length l a w
  | [], l, a, w, hok, hS, h => wpAnyH_done (by simpa [seqS] using hok) h 0
  | j :: r, l, a, w, hok, hS, h => by
    simp only [seqS, Bool.and_eq_true, beq_iff_eq] at hok
    obtain ⟨o, w', v, ho, hg, hrun, hS', hr⟩ := h
    refine wpAnyH_all hok.1 (by simp) fun i hi => ?_
    obtain rfl : i = j := by simpa using hi
    unfold wpOp
    simp only [ho, wanted_of hg, if_true]
    refine .inl ?_
    unfold Oper.wp
    rcases hrun with hrun | ⟨hrun, rfl⟩
    · rw [hrun]; exact ⟨hS', seq_of r _ _ _ hok.2 hS' hr⟩
    · rw [hrun]; exact ⟨hS', seq_of r _ _ _ hok.2 hS' hr⟩
def okT (md : Region.Mode) (ops : Array Oper) (i0 i1 : Nat) (d0 d1 : Tmp) (st : List Nat) : Nat → Bool → Bool → List (Bool × Nat) → Array Bool → Bool
  | 0, p0, p1, [], l => !p0 && !p1 && seqS md ops st l
  | 0, _, _, _ :: _, _ => false
  | n + 1, p0, p1, [], l => (Region.ready md ops l != []) && (Region.ready md ops l).all (fun j => (p0 && j == i0) || (p1 && j == i1)) && (!p0 || okT md ops i0 i1 d0 d1 st n false p1 [] (l.setIfInBounds i0 true)) && (!p1 || okT md ops i0 i1 d0 d1 st n p0 false [] (l.setIfInBounds i1 true))
  | n + 1, p0, p1, (true, i) :: r, l => Region.free md ops l i && (Region.ready md ops l).contains i && farAt ops d0 d1 i && okT md ops i0 i1 d0 d1 st n p0 p1 r (l.setIfInBounds i true)
  | n + 1, p0, p1, (false, i) :: r, l => (Region.ready md ops l != []) && (Region.ready md ops l).all (fun j => (j == i) || ((p0 && j == i0) || (p1 && j == i1))) && farAt ops d0 d1 i && okT md ops i0 i1 d0 d1 st n p0 p1 r (l.setIfInBounds i true) && (!p0 || okT md ops i0 i1 d0 d1 st n false p1 ((false, i) :: r) (l.setIfInBounds i0 true)) && (!p1 || okT md ops i0 i1 d0 d1 st n p0 false ((false, i) :: r) (l.setIfInBounds i1 true))
/-- The blocks that are made. -/
def madeO (n0 : Nat) (obj : Obj) (w : World) : Option Nat → Prop
  | none => True
  | some g => n0 ≤ g ∧ w.heap[g]? = some obj
theorem madeO_below {n0 : Nat} {obj : Obj} {w w1 : World} {m : Option Nat} (h : madeO n0 obj w m) (b : Below w.heap.size w w1) : madeO n0 obj w1 m := by
  cases m with
  | none => trivial
  | some g => exact ⟨h.1, (b.block g (Array.getElem?_eq_some_iff.1 h.2).1).trans h.2⟩
def apartO : Option Nat → Option Nat → Prop
  | some g, some k => g ≠ k
  | _, _ => True
/-- What is known holds also with each of the new blocks. -/
structure Clo2 (n0 : Nat) (ob0 ob1 : Obj) (S I : World → Prop) : Prop where
  held : ∀ w, I w → S w
  big : ∀ w, I w → n0 ≤ w.heap.size
  grow0 : ∀ w, I w → I (w.alloc ob0)
  grow1 : ∀ w, I w → I (w.alloc ob1)
def chainT (P : Program) (ops : Array Oper) (S : World → Prop) (n0 : Nat) (ob0 ob1 : Obj) (fin : Act → (World → Prop) → Prop) : List (Bool × Nat) → Act → (World → Prop) → Prop
  | [], a, I => fin a I
  | (true, i) :: r, a, I => ∃ o v, ops[i]? = some o ∧ YieldsIf P ops S o v a ∧ chainT P ops S n0 ob0 ob1 fin r (a.put o.dst v) I
  | (false, i) :: r, a, I => ∃ o, ops[i]? = some o ∧ o.guard = none ∧ ∀ w, I w → Upon P (fun v w' => Below w.heap.size w w' ∧ ∃ I', Clo2 n0 ob0 ob1 S I' ∧ I' w' ∧ chainT P ops S n0 ob0 ob1 fin r (a.put o.dst v) I') ((execOp a.eval o).run P w)

/-- The end: both blocks are made, the stores are to come. -/
def finT (P : Program) (ops : Array Oper) (S : World → Prop) (Q : Exit → Act → World → Prop) (n0 : Nat) (ob0 ob1 : Obj) (st : List Nat) (d0 d1 : Tmp) (b : Act) (I : World → Prop) : Prop :=
  ∀ w g0 g1, I w → n0 ≤ g0 → n0 ≤ g1 → g0 ≠ g1 → w.heap[g0]? = some ob0 → w.heap[g1]? = some ob1 → runsS P ops S (Q .normal) st ((b.put (some d0) (ptr g0)).put (some d1) (ptr g1)) w
variable {S : World → Prop} {n0 : Nat} {ob0 ob1 : Obj} {o0 o1 : Oper} {i0 i1 : Nat} {d0 d1 : Tmp} {st : List Nat}

theorem two_of (hsel : Region.noSelect ops = true) (hQ : ∀ c (d : Option Tmp) v a w, Q (.panic c) (a.put d v) w → Q (.panic c) a w) (hdd : d0 ≠ d1)
    (h0 : ops[i0]? = some o0) (hd0 : o0.dst = some d0) (hg0 : o0.guard = none) (hal0 : ∀ (a : Act) (w : World), (execOp a.eval o0).run P w = .ok (.value (ptr w.heap.size)) (w.alloc ob0))
    (h1 : ops[i1]? = some o1) (hd1 : o1.dst = some d1) (hg1 : o1.guard = none) (hal1 : ∀ (a : Act) (w : World), (execOp a.eval o1).run P w = .ok (.value (ptr w.heap.size)) (w.alloc ob1)) :
    ∀ (n : Nat) (r : List (Bool × Nat)) (m0 m1 : Option Nat) (l : Array Bool) (a : Act) (I : World → Prop) (w : World),
      okT md ops i0 i1 d0 d1 st n m0.isNone m1.isNone r l = true → Clo2 n0 ob0 ob1 S I → I w → madeO n0 ob0 w m0 → madeO n0 ob1 w m1 → apartO m0 m1 →
      chainT P ops S n0 ob0 ob1 (finT P ops S Q n0 ob0 ob1 st d0 d1) r a I →
      wpAnyH P md ops Q S (n + st.length) l (putT a d0 d1 m0 m1) w := by
  have step0 : ∀ (n : Nat) (r : List (Bool × Nat)) (m1 : Option Nat) (l : Array Bool) (a : Act) (I : World → Prop) (w : World), Clo2 n0 ob0 ob1 S I → I w → madeO n0 ob1 w m1 →
      (∀ w' m0, I w' → madeO n0 ob0 w' (some m0) → madeO n0 ob1 w' m1 → apartO (some m0) m1 → wpAnyH P md ops Q S (n + st.length) (l.setIfInBounds i0 true) (putT a d0 d1 (some m0) m1) w') →
      wpOp P ops Q i0 (fun a' w' => S w' ∧ wpAnyH P md ops Q S (n + st.length) (l.setIfInBounds i0 true) a' w') (putT a d0 d1 none m1) w := by
    intro n r m1 l a I w hc hI hm1 hk
    refine wpOp_upon (R := fun v w' => v = ptr w.heap.size ∧ w' = w.alloc ob0) h0 hg0 (by rw [hal0]; exact ⟨rfl, rfl⟩) ?_
    rintro v w' ⟨rfl, rfl⟩
    have hb : Below w.heap.size w (w.alloc ob0) := (Below.refl _ _).alloc (Nat.le_refl _) _
    have e : (putT a d0 d1 none m1).put o0.dst (ptr w.heap.size) = putT a d0 d1 (some w.heap.size) m1 := by
      rw [hd0]
      unfold putT
      rw [putO_put (by intro e; injection e with e; exact hdd e)]
      rfl
    rw [e]
    refine ⟨hc.held _ (hc.grow0 _ hI), hk _ _ (hc.grow0 _ hI) ⟨hc.big _ hI, heap_alloc_new _ _⟩ (madeO_below hm1 hb) ?_⟩
    cases m1 with
    | none => trivial
    | some g => exact fun e => by have := (Array.getElem?_eq_some_iff.1 hm1.2).1; omega
  have step1 : ∀ (n : Nat) (r : List (Bool × Nat)) (m0 : Option Nat) (l : Array Bool) (a : Act) (I : World → Prop) (w : World), Clo2 n0 ob0 ob1 S I → I w → madeO n0 ob0 w m0 →
      (∀ w' m1, I w' → madeO n0 ob0 w' m0 → madeO n0 ob1 w' (some m1) → apartO m0 (some m1) → wpAnyH P md ops Q S (n + st.length) (l.setIfInBounds i1 true) (putT a d0 d1 m0 (some m1)) w') →
      wpOp P ops Q i1 (fun a' w' => S w' ∧ wpAnyH P md ops Q S (n + st.length) (l.setIfInBounds i1 true) a' w') (putT a d0 d1 m0 none) w := by
    intro n r m0 l a I w hc hI hm0 hk
    refine wpOp_upon (R := fun v w' => v = ptr w.heap.size ∧ w' = w.alloc ob1) h1 hg1 (by rw [hal1]; exact ⟨rfl, rfl⟩) ?_
    rintro v w' ⟨rfl, rfl⟩
    have hb : Below w.heap.size w (w.alloc ob1) := (Below.refl _ _).alloc (Nat.le_refl _) _
    have e : (putT a d0 d1 m0 none).put o1.dst (ptr w.heap.size) = putT a d0 d1 m0 (some w.heap.size) := by
      rw [hd1]; rfl
    rw [e]
    refine ⟨hc.held _ (hc.grow1 _ hI), hk _ _ (hc.grow1 _ hI) (madeO_below hm0 hb) ⟨hc.big _ hI, heap_alloc_new _ _⟩ ?_⟩
    cases m0 with
    | none => trivial
    | some g => exact fun e => by have := (Array.getElem?_eq_some_iff.1 hm0.2).1; omega
  intro n
  induction n with
  | zero =>
    intro r m0 m1 l a I w hok hc hI hm0 hm1 hap h
    cases r with
    | cons x r => simp [okT] at hok
    | nil =>
      cases m0 with
      | none => simp [okT] at hok
      | some g0 =>
        cases m1 with
        | none => simp [okT] at hok
        | some g1 =>
          simp only [okT, Option.isNone_some, Bool.not_false, Bool.true_and] at hok
          rw [Nat.zero_add]
          exact seq_of st l _ w hok (hc.held _ hI) (h w g0 g1 hI hm0.1 hm1.1 hap hm0.2 hm1.2)
  | succ n ih =>
    intro r m0 m1 l a I w hok hc hI hm0 hm1 hap h
    rw [show n + 1 + st.length = (n + st.length) + 1 by omega]
    cases r with
    | nil =>
      simp only [okT, Bool.and_eq_true, bne_iff_ne, List.all_eq_true] at hok
      obtain ⟨⟨⟨k1, k2⟩, k3⟩, k4⟩ := hok
      refine wpAnyH_all rfl k1 fun j hj => ?_
      have hj := k2 j hj
      simp only [Bool.or_eq_true, Bool.and_eq_true, beq_iff_eq] at hj
      rcases hj with ⟨hp, rfl⟩ | ⟨hp, rfl⟩
      · cases m0 with
        | some g => simp at hp
        | none =>
          simp only [Option.isNone_none, Bool.not_true, Bool.false_or] at k3
          exact step0 n [] m1 l a I w hc hI hm1 (fun w' g hI' a1 a2 a3 => ih [] (some g) m1 _ a I w' (by simpa using k3) hc hI' a1 a2 a3 h)
      · cases m1 with
        | some g => simp at hp
        | none =>
          simp only [Option.isNone_none, Bool.not_true, Bool.false_or] at k4
          exact step1 n [] m0 l a I w hc hI hm0 (fun w' g hI' a1 a2 a3 => ih [] m0 (some g) _ a I w' (by simpa using k4) hc hI' a1 a2 a3 h)
    | cons x r =>
      obtain ⟨b, i⟩ := x
      cases b with
      | true =>
        simp only [okT, Bool.and_eq_true] at hok
        obtain ⟨⟨⟨k1, k2⟩, k3⟩, k4⟩ := hok
        obtain ⟨o, v, ho, hy, hr⟩ := h
        obtain ⟨f0, f1, f2, f3⟩ := farAt_spec k3 ho
        refine wpAnyH_take (v := v) ho hsel k1 k2 (fun c a w => hQ c _ _ a w) (hy.of_same (exec_putT (Region.noSelect_spec hsel i o · · ho) f0 f1) (wanted_putT o f0 f1)) (hc.held _ hI) ?_
        rw [putT_put f2 f3]
        exact ih r m0 m1 _ _ I w k4 hc hI hm0 hm1 hap hr
      | false =>
        simp only [okT, Bool.and_eq_true, bne_iff_ne, List.all_eq_true] at hok
        obtain ⟨⟨⟨⟨⟨k1, k2⟩, k3⟩, k4⟩, k5⟩, k6⟩ := hok
        have h' := h
        obtain ⟨o, ho, hgd, hr⟩ := h
        obtain ⟨f0, f1, f2, f3⟩ := farAt_spec k3 ho
        refine wpAnyH_all rfl k1 fun j hj => ?_
        have hj := k2 j hj
        simp only [Bool.or_eq_true, Bool.and_eq_true, beq_iff_eq] at hj
        rcases hj with rfl | ⟨hp, rfl⟩ | ⟨hp, rfl⟩
        · refine wpOp_upon (R := fun v w' => Below w.heap.size w w' ∧ ∃ I', Clo2 n0 ob0 ob1 S I' ∧ I' w' ∧ chainT P ops S n0 ob0 ob1 (finT P ops S Q n0 ob0 ob1 st d0 d1) r (a.put o.dst v) I') ho hgd (by rw [exec_putT (Region.noSelect_spec hsel _ o · · ho) f0 f1]; exact hr w hI) fun v w' ⟨hbw, I', hc', hI', hr'⟩ => ?_
          refine ⟨hc'.held _ hI', ?_⟩
          rw [putT_put f2 f3]
          exact ih r m0 m1 _ _ I' w' k4 hc' hI' (madeO_below hm0 hbw) (madeO_below hm1 hbw) hap hr'
        · cases m0 with
          | some g => simp at hp
          | none =>
            simp only [Option.isNone_none, Bool.not_true, Bool.false_or] at k5
            exact step0 n ((false, i) :: r) m1 l a I w hc hI hm1 (fun w' g hI' a1 a2 a3 => ih ((false, i) :: r) (some g) m1 _ a I w' (by simpa using k5) hc hI' a1 a2 a3 h')
        · cases m1 with
          | some g => simp at hp
          | none =>
            simp only [Option.isNone_none, Bool.not_true, Bool.false_or] at k6
            exact step1 n ((false, i) :: r) m0 l a I w hc hI hm0 (fun w' g hI' a1 a2 a3 => ih ((false, i) :: r) m0 (some g) _ a I w' (by simpa using k6) hc hI' a1 a2 a3 h')
/-- THE LAW of a region with two new blocks. -/
theorem region_two {id : Nat} {a : Act} {w : World} (r : List (Bool × Nat)) (i0 i1 d0 d1 : Nat) (st : List Nat) (o0 o1 : Oper) (ob0 ob1 : Obj) (n0 : Nat) (S I : World → Prop)
    (hm : P.follows .mixedOrders = true) (hok : okT .any ops i0 i1 d0 d1 st (r.length + 2) true true r (Array.replicate ops.size false) = true) (hlen : ops.size = r.length + 2 + st.length) (hsel : Region.noSelect ops = true) (hdd : d0 ≠ d1)
    (h0 : ops[i0]? = some o0) (hd0 : o0.dst = some d0) (hg0 : o0.guard = none) (hal0 : ∀ (a : Act) (w : World), (execOp a.eval o0).run P w = .ok (.value (ptr w.heap.size)) (w.alloc ob0))
    (h1 : ops[i1]? = some o1) (hd1 : o1.dst = some d1) (hg1 : o1.guard = none) (hal1 : ∀ (a : Act) (w : World), (execOp a.eval o1).run P w = .ok (.value (ptr w.heap.size)) (w.alloc ob1))
    (hc : Clo2 n0 ob0 ob1 S I) (hI : I w.drew)
    (h : chainT P ops S n0 ob0 ob1 (finT P ops S Q n0 ob0 ob1 st d0 d1) r a I) :
    (Code.region id ops true).wp P Q a w := by
  refine wp_region_noPanic (wp_region_held hm (S := S) ?_)
  have k := two_of (md := .any) (Q := NoPanic Q) (st := st) (i0 := i0) (i1 := i1) hsel (fun _ _ _ _ _ h => h) hdd h0 hd0 hg0 hal0 h1 hd1 hg1 hal1 (r.length + 2) r none none _ a I _ hok hc hI trivial trivial trivial ?_
  · rw [← hlen] at k; exact k
  · have mono : ∀ (st : List Nat) (a : Act) (w : World), runsS P ops S (Q .normal) st a w → runsS P ops S (NoPanic Q .normal) st a w := by
      intro st
      induction st with
      | nil => intro a w h; exact NoPanic.normal h
      | cons j st ih => rintro a w ⟨o, w', v, e1, e2, e3, e4, e5⟩; exact ⟨o, w', v, e1, e2, e3, e4, ih _ _ e5⟩
    have monoC : ∀ (r : List (Bool × Nat)) (a : Act) (I : World → Prop), chainT P ops S n0 ob0 ob1 (finT P ops S Q n0 ob0 ob1 st d0 d1) r a I →
        chainT P ops S n0 ob0 ob1 (finT P ops S (NoPanic Q) n0 ob0 ob1 st d0 d1) r a I := by
      intro r
      induction r with
      | nil => intro a I h w g0 g1 a1 a2 a3 a4 a5 a6; exact mono _ _ _ (h w g0 g1 a1 a2 a3 a4 a5 a6)
      | cons x r ih =>
        obtain ⟨b, i⟩ := x
        cases b with
        | true => rintro a I ⟨o, v, ho, hy, hr⟩; exact ⟨o, v, ho, hy, ih _ _ hr⟩
        | false =>
          rintro a I ⟨o, ho, hg, hr⟩
          refine ⟨o, ho, hg, fun w hw => ?_⟩
          have h := hr w hw
          generalize (execOp a.eval o).run P w = q at h ⊢
          cases q with
          | ok n w' =>
            cases n <;> simp only [Upon] at h ⊢
            case value v => obtain ⟨hb, I', c, j1, j2⟩ := h; exact ⟨hb, I', c, j1, ih _ _ j2⟩
            case enter f args => exact h.mono fun e w'' ⟨v, he, hb, I', c, j1, j2⟩ => ⟨v, he, hb, I', c, j1, ih _ _ j2⟩
          | halt x w' => simp only [Upon] at h
    exact monoC r a I h
end
end Go.Proofs.Ytjanphcfflahkaa.cards

/- A region that draws its order: operations that only read, then some that make memory in ANY order (each by its own word on what it makes), then the rest, one behind the other. ONE walk serves all orders. -/
namespace Go.Proofs.Ytjanphcfflahkaa.cards
open Go.RowKit
open reg
set_option linter.unusedVariables false

section
variable {P : Program} {md : Region.Mode} {ops : Array Oper} {Q : Exit → Act → World → Prop} {S : World → Prop}
theorem Upon.imp {R R2 : Value → World → Prop} {q : Result Next} (h : Upon P R q) (hi : ∀ v w, R v w → R2 v w) : Upon P R2 q := by
  cases q with
  | ok n w' =>
    cases n <;> simp only [Upon] at h ⊢
    case value v => exact hi _ _ h
    case enter f args => exact h.mono fun e w'' ⟨v, he, hr⟩ => ⟨v, he, hi _ _ hr⟩
  | halt x w' => simp only [Upon] at h
theorem Upon.enter {R : Value → World → Prop} {q : Result Next} {f : FuncId} {args : Array Value} {w : World} (h : q = .ok (.enter f args) w) (hc : Calls P f args w (fun e w' => ∃ v, e = .returned v ∧ R v w')) : Upon P R q := by subst h; exact hc
def okJ (md : Region.Mode) (ops : Array Oper) (st : List Nat) : Nat → List Nat → Array Bool → Bool
  | 0, rem, l => (rem == []) && seqS md ops st l
  | n + 1, rem, l => (Region.ready md ops l != []) && (Region.ready md ops l).all (fun j => rem.contains j && okJ md ops st n (rem.erase j) (l.setIfInBounds j true))
def okPJ (md : Region.Mode) (ops : Array Oper) (js st : List Nat) : List Nat → Array Bool → Bool
  | [], l => okJ md ops st js.length js l
  | i :: r, l => Region.free md ops l i && (Region.ready md ops l).contains i && okPJ md ops js st r (l.setIfInBounds i true)
theorem jobs_of {st : List Nat} {J : List Nat → Act → World → Prop} (hS : ∀ rem a w, J rem a w → S w)
    (hs : ∀ rem j a w, j ∈ rem → J rem a w → ∃ o, ops[j]? = some o ∧ o.guard = none ∧ Upon P (fun v w' => J (rem.erase j) (a.put o.dst v) w') ((execOp a.eval o).run P w))
    (hK : ∀ a w, J [] a w → runsS P ops S (Q .normal) st a w) :
    ∀ (n : Nat) (rem : List Nat) (l : Array Bool) (a : Act) (w : World), okJ md ops st n rem l = true → J rem a w → wpAnyH P md ops Q S (n + st.length) l a w
  | 0, rem, l, a, w, hok, h => by
    simp only [okJ, Bool.and_eq_true, beq_iff_eq] at hok
    obtain ⟨h1, h2⟩ := hok
    subst h1
    rw [Nat.zero_add]
    exact seq_of st l a w h2 (hS _ _ _ h) (hK a w h)
  | n + 1, rem, l, a, w, hok, h => by
    simp only [okJ, Bool.and_eq_true, bne_iff_ne, List.all_eq_true] at hok
    obtain ⟨h1, h2⟩ := hok
    rw [show n + 1 + st.length = (n + st.length) + 1 by omega]
    refine wpAnyH_all rfl h1 fun j hj => ?_
    obtain ⟨h3, h4⟩ := h2 j hj
    obtain ⟨o, ho, hg, hr⟩ := hs rem j a w (List.contains_iff_mem.1 h3) h
    exact wpOp_upon ho hg hr fun v w' hJ => ⟨hS _ _ _ hJ, jobs_of hS hs hK n _ _ _ _ h4 hJ⟩
/-- Operations that only read, each taken at once. -/
def pureJ (P : Program) (ops : Array Oper) (S : World → Prop) (K : Act → Prop) : List Nat → Act → Prop
  | [], a => K a
  | i :: r, a => ∃ o v, ops[i]? = some o ∧ YieldsIf P ops S o v a ∧ pureJ P ops S K r (a.put o.dst v)
theorem pures_of {js st : List Nat} {I : World → Prop} (hsel : Region.noSelect ops = true) (hQ : ∀ c (d : Option Tmp) v a w, Q (.panic c) (a.put d v) w → Q (.panic c) a w) (hc : ∀ w, I w → S w) {K : Act → Prop}
    (hK : ∀ a w l, K a → I w → okJ md ops st js.length js l = true → wpAnyH P md ops Q S (js.length + st.length) l a w) :
    ∀ (r : List Nat) (l : Array Bool) (a : Act) (w : World), okPJ md ops js st r l = true → I w → pureJ P ops S K r a → wpAnyH P md ops Q S (r.length + (js.length + st.length)) l a w
  | [], l, a, w, hok, hI, h => by
    rw [List.length_nil, Nat.zero_add]
    exact hK a w l h hI hok
  | i :: r, l, a, w, hok, hI, h => by
    simp only [okPJ, Bool.and_eq_true] at hok
    obtain ⟨⟨h1, h2⟩, h7⟩ := hok
    obtain ⟨o, v, ho, hy, hr⟩ := h
    rw [List.length_cons, show r.length + 1 + (js.length + st.length) = (r.length + (js.length + st.length)) + 1 by omega]
    exact wpAnyH_take (v := v) ho hsel h1 h2 (fun c a w => hQ c _ _ a w) hy (hc _ hI) (pures_of hsel hQ hc hK r _ _ w h7 hI hr)
abbrev Mk := Nat → Option (Value × Nat × Nat)
def putM (a : Act) (dst : Nat → Tmp) (M : Mk) : List Nat → Act
  | [] => a
  | j :: r => match M j with
    | some x => (putM a dst M r).put (some (dst j)) x.1
    | none => putM a dst M r
def updM (M : Mk) (j : Nat) (x : Value × Nat × Nat) : Mk := fun k => if k = j then some x else M k
theorem putM_off {a : Act} {dst : Nat → Tmp} {M : Mk} {j : Nat} {x : Value × Nat × Nat} : ∀ {js : List Nat}, j ∉ js → putM a dst (updM M j x) js = putM a dst M js
  | [], _ => rfl
  | k :: r, h => by
    have hk : k ≠ j := fun e => h (by simp [e])
    have ih := putM_off (a := a) (dst := dst) (M := M) (x := x) (js := r) (fun hm => h (List.mem_cons_of_mem _ hm))
    have e : updM M j x k = M k := if_neg hk
    simp only [putM, e, ih]
theorem putM_upd {a : Act} {dst : Nat → Tmp} {M : Mk} {j : Nat} {x : Value × Nat × Nat} : ∀ {js : List Nat}, j ∈ js → js.Nodup → (∀ k ∈ js, k ≠ j → dst k ≠ dst j) → M j = none → (putM a dst M js).put (some (dst j)) x.1 = putM a dst (updM M j x) js
  | [], h, _, _, _ => by simp at h
  | k :: r, h, hn, hd, hM => by
    obtain ⟨hkr, hnr⟩ := List.nodup_cons.1 hn
    by_cases hk : k = j
    · subst hk
      have e : updM M k x k = some x := if_pos rfl
      simp only [putM, e, hM, putM_off hkr]
    · have hj : j ∈ r := by
        rcases List.mem_cons.1 h with e | e
        · exact absurd e.symm hk
        · exact e
      have ih := putM_upd (a := a) (dst := dst) (M := M) (x := x) hj hnr (fun k' hk' => hd k' (by simp [hk'])) hM
      have e : updM M j x k = M k := if_neg hk
      have hne := hd k (by simp) hk
      simp only [putM, e]
      cases hMk : M k with
      | none => exact ih
      | some y =>
        simp only
        rw [← ih]
        exact Act.put_comm _ (x := some (dst k)) (y := some (dst j)) _ _ (fun e he => by cases he; intro h2; injection h2 with h2; exact hne h2.symm)
theorem exec_putM {o : Oper} (hs : ∀ cs b, o.op ≠ .select cs b) {a : Act} {dst : Nat → Tmp} {M : Mk} : ∀ {js : List Nat}, (∀ k ∈ js, dst k ∉ o.looksAt ops) → execOp (putM a dst M js).eval o = execOp a.eval o
  | [], _ => rfl
  | k :: r, h => by
    have ih := exec_putM hs (a := a) (dst := dst) (M := M) (js := r) (fun k' hk' => h k' (by simp [hk']))
    simp only [putM]
    split
    · rw [execOp_put (ops := ops) o hs _ (some (dst k)) _ (fun e he => by cases he; exact h k (by simp)), ih]
    · exact ih
/-- What each of the jobs does, and what is to come behind them all. -/
structure JobsK (P : Program) (ops : Array Oper) (S I : World → Prop) (Q : Exit → Act → World → Prop) (n0 : Nat) (js st : List Nat) (dst : Nat → Tmp) (R : Nat → Value → Nat → Nat → World → Prop) (a0 : Act) : Prop where
  job : ∀ j ∈ js, ∃ o, ops[j]? = some o ∧ o.guard = none ∧ o.dst = some (dst j) ∧ (∀ k ∈ js, dst k ∉ o.looksAt ops) ∧ ∀ w, I w → Upon P (fun v w' => Below w.heap.size w w' ∧ R j v w.heap.size w'.heap.size w') ((execOp a0.eval o).run P w)
  fin : ∀ (w : World) (M : Mk), I w → (∀ j ∈ js, ∃ x, M j = some x ∧ n0 ≤ x.2.1 ∧ x.2.1 ≤ x.2.2 ∧ x.2.2 ≤ w.heap.size ∧ R j x.1 x.2.1 x.2.2 w) → (∀ j ∈ js, ∀ k ∈ js, j ≠ k → ∀ x y, M j = some x → M k = some y → x.2.2 ≤ y.2.1 ∨ y.2.2 ≤ x.2.1) → runsS P ops S (Q .normal) st (putM a0 dst M js) w
theorem jobsK_of {S I : World → Prop} {n0 : Nat} {js st : List Nat} {dst : Nat → Tmp} {R : Nat → Value → Nat → Nat → World → Prop} {a0 : Act} (hsel : Region.noSelect ops = true) (hnd : js.Nodup) (hdst : ∀ j ∈ js, ∀ k ∈ js, j ≠ k → dst j ≠ dst k)
    (hc : ∀ w, I w → S w) (hn0 : ∀ w, I w → n0 ≤ w.heap.size) (hgrow : ∀ w w', I w → Below w.heap.size w w' → I w') (hR : ∀ j v lo hi w w', R j v lo hi w → Below w.heap.size w w' → R j v lo hi w')
    (h : JobsK P ops S I Q n0 js st dst R a0) (l : Array Bool) (w : World) (hI : I w) (hok : okJ md ops st js.length js l = true) : wpAnyH P md ops Q S (js.length + st.length) l a0 w := by
  refine jobs_of (J := fun rem a w => ∃ M : Mk, a = putM a0 dst M js ∧ I w ∧ (∀ k ∈ js, k ∈ rem ↔ M k = none) ∧ (∀ k ∈ js, ∀ x, M k = some x → n0 ≤ x.2.1 ∧ x.2.1 ≤ x.2.2 ∧ x.2.2 ≤ w.heap.size ∧ R k x.1 x.2.1 x.2.2 w) ∧ (∀ j ∈ js, ∀ k ∈ js, j ≠ k → ∀ x y, M j = some x → M k = some y → x.2.2 ≤ y.2.1 ∨ y.2.2 ≤ x.2.1) ∧ rem.Nodup ∧ ∀ k ∈ rem, k ∈ js) ?_ ?_ ?_ js.length js l a0 w hok ?_
  · rintro rem a w ⟨M, _, h2, _⟩
    exact hc _ h2
  · rintro rem j a w hj ⟨M, rfl, h2, h3, h4, h5, h6, h7⟩
    have hjs := h7 j hj
    obtain ⟨o, ho, hg, hd, hl, hu⟩ := h.job j hjs
    refine ⟨o, ho, hg, ?_⟩
    rw [exec_putM (Region.noSelect_spec hsel j o · · ho) hl]
    refine Upon.imp (hu w h2) ?_
    rintro v w' ⟨b, hr⟩
    have hMj : M j = none := (h3 j hjs).1 hj
    refine ⟨updM M j (v, w.heap.size, w'.heap.size), ?_, hgrow _ _ h2 b, ?_, ?_, ?_, h6.erase _, fun k hk => h7 k (List.mem_of_mem_erase hk)⟩
    · rw [hd]
      exact putM_upd (x := (v, w.heap.size, w'.heap.size)) hjs hnd (fun k hk hne => hdst k hk j hjs hne) hMj
    · intro k hk
      unfold updM
      by_cases e : k = j
      · subst e
        rw [if_pos rfl]
        simp [h6.not_mem_erase]
      · rw [if_neg e, List.mem_erase_of_ne e]
        exact h3 k hk
    · intro k hk x hx
      unfold updM at hx
      split at hx
      · rename_i e
        subst e
        injection hx with hx
        subst hx
        exact ⟨hn0 _ h2, b.size, Nat.le_refl _, hr⟩
      · obtain ⟨g1, g2, g3, g4⟩ := h4 k hk x hx
        exact ⟨g1, g2, Nat.le_trans g3 b.size, hR _ _ _ _ _ _ g4 b⟩
    · intro i hi k hk hne x y hx hy
      unfold updM at hx hy
      split at hx
      · rename_i e
        subst e
        rw [if_neg (Ne.symm hne)] at hy
        injection hx with hx
        subst hx
        exact .inr (h4 k hk y hy).2.2.1
      · split at hy
        · rename_i e
          subst e
          injection hy with hy
          subst hy
          exact .inl (h4 i hi x hx).2.2.1
        · exact h5 i hi k hk hne x y hx hy
  · rintro a w ⟨M, rfl, h2, h3, h4, h5, h6, h7⟩
    refine h.fin w M h2 (fun j hj => ?_) h5
    cases hM : M j with
    | none => exact absurd ((h3 j hj).2 hM) (by simp)
    | some x => exact ⟨x, rfl, h4 j hj x hM⟩
  · refine ⟨fun _ => none, ?_, hI, fun k hk => by simp [hk], (fun k hk x hx => by cases hx), (fun i hi k hk hne x y hx => by cases hx), hnd, fun k hk => hk⟩
    have : ∀ js : List Nat, a0 = putM a0 dst (fun _ => none) js := by
      intro js
      induction js with
      | nil => rfl
      | cons j r ih => exact ih
    exact this js
theorem JobsK.noPanic {I : World → Prop} {n0 : Nat} {js st : List Nat} {dst : Nat → Tmp} {R : Nat → Value → Nat → Nat → World → Prop} {a0 : Act} (h : JobsK P ops S I Q n0 js st dst R a0) : JobsK P ops S I (NoPanic Q) n0 js st dst R a0 := by
  refine ⟨h.job, fun w M a1 a2 a3 => ?_⟩
  have mono : ∀ (st : List Nat) (a : Act) (w : World), runsS P ops S (Q .normal) st a w → runsS P ops S (NoPanic Q .normal) st a w := by
    intro st
    induction st with
    | nil => intro a w h; exact NoPanic.normal h
    | cons j st ih => rintro a w ⟨o, w', v, e1, e2, e3, e4, e5⟩; exact ⟨o, w', v, e1, e2, e3, e4, ih _ _ e5⟩
  exact mono _ _ _ (h.fin w M a1 a2 a3)
theorem pureJ_imp {K K2 : Act → Prop} (hK : ∀ a, K a → K2 a) : ∀ (r : List Nat) (a : Act), pureJ P ops S K r a → pureJ P ops S K2 r a
  | [], a, h => hK _ h
  | i :: r, a, ⟨o, v, ho, hy, hr⟩ => ⟨o, v, ho, hy, pureJ_imp hK r _ hr⟩
/-- THE LAW. -/
theorem region_jobs {id : Nat} {a : Act} {w : World} (r js st : List Nat) (dst : Nat → Tmp) (R : Nat → Value → Nat → Nat → World → Prop) (n0 : Nat) (S I : World → Prop) (hm : P.follows .mixedOrders = true)
    (hok : okPJ .any ops js st r (Array.replicate ops.size false) = true) (hlen : ops.size = r.length + (js.length + st.length)) (hsel : Region.noSelect ops = true) (hnd : js.Nodup) (hdst : ∀ j ∈ js, ∀ k ∈ js, j ≠ k → dst j ≠ dst k)
    (hc : ∀ w, I w → S w) (hn0 : ∀ w, I w → n0 ≤ w.heap.size) (hgrow : ∀ w w', I w → Below w.heap.size w w' → I w') (hR : ∀ j v lo hi w w', R j v lo hi w → Below w.heap.size w w' → R j v lo hi w') (hI : I w.drew)
    (h : pureJ P ops S (JobsK P ops S I Q n0 js st dst R) r a) : (Code.region id ops true).wp P Q a w := by
  refine wp_region_noPanic (wp_region_held hm (S := S) ?_)
  have k := pures_of (md := .any) (Q := NoPanic Q) (S := S) (I := I) (js := js) (st := st) hsel (fun _ _ _ _ _ h => h) hc (K := JobsK P ops S I Q n0 js st dst R) (fun a w l hK hI hok => jobsK_of hsel hnd hdst hc hn0 hgrow hR hK.noPanic l w hI hok) r _ a _ hok hI h
  rw [← hlen] at k; exact k
/-- The same where what is known of the world is that nothing has turned but from block w.heap.size on. -/
theorem region_jobsB {id : Nat} {a : Act} {w : World} (r js st : List Nat) (dst : Nat → Tmp) (R : Nat → Value → Nat → Nat → World → Prop) (hm : P.follows .mixedOrders = true)
    (hok : okPJ .any ops js st r (Array.replicate ops.size false) = true) (hlen : ops.size = r.length + (js.length + st.length)) (hsel : Region.noSelect ops = true) (hnd : js.Nodup) (hdst : ∀ j ∈ js, ∀ k ∈ js, j ≠ k → dst j ≠ dst k)
    (hR : ∀ j v lo hi w w', R j v lo hi w → Below w.heap.size w w' → R j v lo hi w') (S : World → Prop) (hc : ∀ w', BI w w' → S w')
    (h : pureJ P ops S (JobsK P ops S (BI w) Q w.heap.size js st dst R) r a) : (Code.region id ops true).wp P Q a w :=
  region_jobs r js st dst R w.heap.size S (BI w) hm hok hlen hsel hnd hdst hc (fun _ h => Below.size h) (fun _ _ h b => BI.next h b) hR (BI.start w) h
end
section
variable {ops : Array Oper} {S : World → Prop} {K : Act → Prop}
theorem j_pure (d : Tmp) {i : Nat} {r : List Nat} {a : Act} {v : Value} {o : Oper} (ho : ops[i]? = some o) (hd : o.dst = some d) (hg : o.guard = none)
    (he : ∀ w, (execOp a.eval o).run Try.prog w = .ok (.value v) w) (hr : pureJ Try.prog ops S K r (a.put (some d) v)) : pureJ Try.prog ops S K (i :: r) a :=
  ⟨o, v, ho, .inl ⟨wanted_of hg, fun w _ => he w⟩, hd ▸ hr⟩
/-- One cell is read. -/
theorem j_cell (d : Tmp) {i : Nat} {r : List Nat} {a : Act} {v : Value} {o : Oper} {T : TypeId} {x : Operand} {p : Addr} (ho : ops[i]? = some o) (hd : o.dst = some d) (hg : o.guard = none) (hop : o.op = .load T x) (hx : a.eval x = .pointer (some p))
    (hc : ∀ w, S w → (loadVar T p).run Try.prog w = .ok v w) (hr : pureJ Try.prog ops S K r (a.put (some d) v)) : pureJ Try.prog ops S K (i :: r) a :=
  ⟨o, v, ho, .inl ⟨wanted_of hg, fun w hw => by
    unfold execOp
    rw [hop]
    simp only [hx]
    have h := hc w hw
    simp [Instr.loadAt, Instr.sureAddr, asAddr, h, Result.andThen]⟩, hd ▸ hr⟩
end
end Go.Proofs.Ytjanphcfflahkaa.cards

/- New games: the program's and the model's. -/
namespace Go.Proofs.Ytjanphcfflahkaa.game
open Go.RowKit
open cards deal reg
set_option linter.unusedVariables false

def plI (p : Int) : Bool := decide (1 ≤ p ∧ p ≤ 4)
set_option maxHeartbeats 400000 in
theorem can_play (p : Int) (w : World) :
    Calls Try.prog 104 #[.int .i64 p] w fun e w' => e = .returned (.bool (plI p)) ∧ Below w.heap.size w w' := by
  go_enter Try.func104, Try.ntmps104
  go_wp2
  all_goals go_ret
  all_goals exact ⟨ret_bool (by unfold plI; simp; omega), by repeat (first | with_reducible exact Below.refl _ _ | with_reducible exact HB.out | with_reducible apply Below.drew | with_reducible apply bdN | with_reducible refine Below.alloc ?_ (by first | exact Nat.le_refl _ | with_reducible exact HB.out.size | omega | (simp; done) | (simp; omega) | (have := HB.out.size; simp at *; omega)) _ | with_reducible refine Below.setCell ?_ (by first | exact Nat.le_refl _ | with_reducible exact HB.out.size | omega | (simp; done) | (simp; omega) | (have := HB.out.size; simp at *; omega)) _)⟩
abbrev gm0 : Gm := ⟨0, 0, [], [], []⟩
noncomputable def newG (s : Int) (n : Nat) : Gm := ⟨s, (newD s).nx, (newD s).l, List.replicate n 0, List.replicate n 0⟩
noncomputable def ngR (s p : Int) : Gm × Bool := if isSd s = true ∧ plI p = true then (newG s p.toNat, true) else (gm0, false)
theorem ngR_len (s p : Int) : (ngR s p).1.l.length ≤ 1000 ∧ (ngR s p).1.sc.length ≤ 1000 ∧ (ngR s p).1.wr.length ≤ 1000 := by
  unfold ngR; split
  · rename_i h
    have h2 := h.2
    unfold plI at h2
    have := of_decide_eq_true h2
    have h3 := (new_facts (s := s)).2.1
    refine ⟨?_, ?_, ?_⟩
    · show (newD s).l.length ≤ _; omega
    · show (List.replicate p.toNat (0 : Int)).length ≤ _; rw [List.length_replicate]; omega
    · show (List.replicate p.toNat (0 : Int)).length ≤ _; rw [List.length_replicate]; omega
  · simp

/-- Three slices in a world, whichever was made first. -/
theorem OwnG.three {w : World} {B C : Nat} {vl vs vw : Value} {l : List Cd} {sc wr : List Int} {a1 b1 a2 b2 a3 b3 : Nat} (h1 : Own w a1 vl l) (h2 : OwnI w a2 vs sc) (h3 : OwnI w a3 vw wr) (c1 : ∀ g, vl.ownBlock = some g → g < b1) (c2 : ∀ g, vs.ownBlock = some g → g < b2) (c3 : ∀ g, vw.ownBlock = some g → g < b3)
    (d12 : b1 ≤ a2 ∨ b2 ≤ a1) (d13 : b1 ≤ a3 ∨ b3 ≤ a1) (d23 : b2 ≤ a3 ∨ b3 ≤ a2) (hB : B ≤ a1 ∧ B ≤ a2 ∧ B ≤ a3) (hC : b1 ≤ C ∧ b2 ≤ C ∧ b3 ≤ C) : OwnG w B C vl vs vw l sc wr :=
  ⟨h1.base hB.1, OwnI.base h2 hB.2.1, OwnI.base h3 hB.2.2, fun g e1 e2 => by have := c1 g e1; have := c2 g e2; have := (h1.span g e1).1; have := (h2.span g e2).1; omega, fun g e1 e2 => by have := c1 g e1; have := c3 g e2; have := (h1.span g e1).1; have := (h3.span g e2).1; omega, fun g e1 e2 => by have := c2 g e1; have := c3 g e2; have := (h2.span g e1).1; have := (h3.span g e2).1; omega,
    fun g e => Nat.lt_of_lt_of_le (c1 g e) hC.1, fun g e => Nat.lt_of_lt_of_le (c2 g e) hC.2.1, fun g e => Nat.lt_of_lt_of_le (c3 g e) hC.2.2⟩

theorem exec_makeI {n : Nat} (hn : n ≤ 1000000000) {a : Act} {o : Oper} {p q : Operand} (ho : o.op = .makeSlice 43 p q) (hp : a.eval p = .int .i64 n) (hq : a.eval q = .int .i64 n) (w : World) :
    (execOp a.eval o).run Try.prog w = .ok (.value (.slice (some ⟨w.heap.size, 0, none⟩) n n)) (w.alloc (.cells (madeCells #[Value.int .i64 0] n) 3)) := by
  unfold execOp
  rw [ho]
  simp only [hp, hq]
  simp [madeI n hn w, Result.andThen]
abbrev cvG (s n : Int) (v u q : Value) : Array Value := #[.int .i64 s, .int .i64 n, v, u, q]
/-- A Game is stored into a block. -/
theorem exec_storeG {w : World} {g : Nat} {s0 n0 : Int} {v0 u0 q0 : Value} (h : GBox w g ⟨51, s0, n0, v0, u0, q0⟩) {a : Act} {o : Oper} {p q : Operand} (ho : o.op = .store 51 p q) {s n : Int} {pl ps pw : Option Addr} {nl cl ns cs nw cw : Nat}
    (hp : a.eval p = .pointer (some ⟨g, 0, none⟩)) (hq : a.eval q = gval s n (.slice pl nl cl) (.slice ps ns cs) (.slice pw nw cw)) : (execOp a.eval o).run Try.prog w = .ok .skip (w.setCells g 0 (cvG s n (.slice pl nl cl) (.slice ps ns cs) (.slice pw nw cw)).toList) := by
  have hv : VB w g 51 (cvG s0 n0 v0 u0 q0) := h
  have hr := run_storeAt_mid (P := Try.prog) w g 0 51 (cvG s n (.slice pl nl cl) (.slice ps ns cs) (.slice pw nw cw)) hv.there (by kernel_rfl) (by simp [Value.oneCell'])
  unfold execOp
  rw [ho]
  simp only [hp, hq]
  simp [hr, Result.andThen]
theorem gbox_sets {w : World} {g : Nat} {t : TypeId} {s0 n0 : Int} {v0 u0 q0 : Value} (h : GBox w g ⟨t, s0, n0, v0, u0, q0⟩) (s n : Int) (v u q : Value) : GBox (w.setCells g 0 (cvG s n v u q).toList) g ⟨t, s, n, v, u, q⟩ := VB.stored (T := t) (cs := cvG s0 n0 v0 u0 q0) (cs2 := cvG s n v u q) h rfl
theorem out_sets (w : World) (g : Nat) (vs : List Value) : Out g (g + 1) w (w.setCells g 0 vs) := Out.grown (grown_setsV g vs 0 w) (fun q e => by injection e with e; omega)
theorem OwnI.madeB (w : World) (n : Nat) : ∀ g, (Value.slice (some ⟨w.heap.size, 0, none⟩) n n).ownBlock = some g → g < w.heap.size + 1 := fun g e => by have e2 : some w.heap.size = some g := e; injection e2 with e2; omega

end Go.Proofs.Ytjanphcfflahkaa.game

/- Is a Game valid? The program and the model alike. -/

namespace Go.Proofs.Ytjanphcfflahkaa.game
open Go.RowKit
open cards deal
set_option linter.unusedVariables false

/-- The place of the first line of which P is true, or -1. -/
def posP {α : Type} (P : α → Bool) (l : List α) : Int := if l.any P = true then (((l.takeWhile fun x => !P x).length : Nat) : Int) else -1
theorem posP_at {α : Type} {P : α → Bool} : ∀ {l : List α} {k : Nat} {x : α}, l[k]? = some x → P x = true → (∀ (j : Nat) y, j < k → l[j]? = some y → P y = false) → (k : Int) = posP P l
  | [], k, x, h, _, _ => by simp at h
  | y :: r, 0, x, h, hp, _ => by
    obtain rfl : y = x := by simpa using h
    simp [posP, hp]
  | y :: r, k + 1, x, h, hp, hu => by
    have h0 := hu 0 y (by omega) rfl
    have ih := posP_at (l := r) (k := k) (by simpa using h) hp (fun j z hj hz => hu (j + 1) z (by omega) (by simpa using hz))
    unfold posP at ih ⊢
    have ha : r.any P = true := List.any_eq_true.2 ⟨x, List.mem_of_getElem? (by simpa using h), hp⟩
    rw [if_pos ha] at ih
    rw [if_pos (by simp [ha]), List.takeWhile_cons, if_pos (by simp [h0]), List.length_cons]
    omega
theorem posP_none {α : Type} {P : α → Bool} {l : List α} (hu : ∀ (j : Nat) y, l[j]? = some y → P y = false) : -1 = posP P l := by
  unfold posP
  rw [if_neg]
  intro h
  obtain ⟨x, hx, hp⟩ := List.any_eq_true.1 h
  obtain ⟨k, hk⟩ := List.mem_iff_getElem?.1 hx
  rw [hu k x hk] at hp; cases hp
theorem posP_nn {α : Type} {P : α → Bool} {l : List α} : decide (0 ≤ posP P l) = l.any P := by
  unfold posP
  cases h : l.any P <;> simp
theorem posP_bd {α : Type} (P : α → Bool) (l : List α) : -1 ≤ posP P l ∧ posP P l ≤ l.length := by
  unfold posP
  have := (List.takeWhile_sublist (fun x => !P x) (l := l)).length_le
  split <;> omega

set_option maxHeartbeats 400000 in
theorem odd_fun (x : Int) (w : World) :
    Calls Try.prog 130 #[.int .i64 x] w fun e w' => e = .returned (.bool (!tly1 x)) ∧ Below w.heap.size w w' := by
  go_enter Try.func130, Try.ntmps130
  go_wp2
  all_goals go_ret
  all_goals exact ⟨ret_bool (by unfold tly1; rw [Bool.eq_iff_iff]; simp <;> omega), by repeat (first | with_reducible exact Below.refl _ _ | with_reducible exact HB.out | with_reducible apply Below.drew | with_reducible apply bdN | with_reducible refine Below.alloc ?_ (by first | exact Nat.le_refl _ | with_reducible exact HB.out.size | omega | (simp; done) | (simp; omega) | (have := HB.out.size; simp at *; omega)) _ | with_reducible refine Below.setCell ?_ (by first | exact Nat.le_refl _ | with_reducible exact HB.out.size | omega | (simp; done) | (simp; omega) | (have := HB.out.size; simp at *; omega)) _)⟩

set_option maxRecDepth 100000 in
set_option maxHeartbeats 2000000 in
theorem index_odd (l : List Int) (p : Option Addr) (n c : Nat) (w : World) (hn : l.length = n) (hl : n ≤ 1000000000) (hr : Rd w p (ints l)) :
    Calls Try.prog 154 #[.slice p n c, .func (.func 130) #[] #[]] w fun e w' => e = .returned (.int .i64 (posP (fun x => !tly1 x) l)) ∧ Below w.heap.size w w' := by
  have HN := Lib.hid hn
  have HR := Lib.hid hr
  clear hn hr
  go_enter Try.func154, Try.ntmps154
  go_wp2_with fail
  go_loopw [5, 8] (fun _ i wr => ∃ k : Nat, k ≤ n ∧ i = .int .i64 k ∧ Hid (∀ (j : Nat) y, j < k → l[j]? = some y → (!tly1 y) = false) ∧ Hid (Below w.heap.size w wr)) (fun _ i _ => n - (intOf i).toNat)
  case atStart => exact ⟨0, Nat.zero_le _, rfl, Lib.hid (fun j y h => by omega), Lib.hid (Below.refl _ _)⟩
  case round =>
    obtain ⟨k, hk, rfl, HU, HB⟩ := hrel
    by_cases hlt : k < n
    · obtain ⟨b, o, x, rfl, hb, hx, c0⟩ := (HR.out.below HB.out).int (k := k) (by rw [HN.out]; exact hlt)
      have HX := Lib.hid hx
      clear hx
      have m0 : (0 : Int) ≤ (k : Int) := by omega
      have m1 : (k : Int) < (n : Int) := by omega
      go_wp2_with fail
      refine (odd_fun x _).mono ?_
      rintro e w1 ⟨rfl, b⟩
      have Sw1 := Lib.hid b.size
      have HB := Lib.hid (chain0 (w := w) (by repeat (first | with_reducible exact Below.refl _ _ | with_reducible exact HB.out | with_reducible apply Below.drew | with_reducible apply bdN | with_reducible refine Below.alloc ?_ (by first | exact Nat.le_refl _ | with_reducible exact HB.out.size | omega | (simp; done) | (simp; omega) | (have := HB.out.size; simp at *; omega)) _ | with_reducible refine Below.setCell ?_ (by first | exact Nat.le_refl _ | with_reducible exact HB.out.size | omega | (simp; done) | (simp; omega) | (have := HB.out.size; simp at *; omega)) _)) b)
      clear b
      clear c0
      cases hs : tly1 x
      · have HP := Lib.hid (show (k : Int) = posP (fun x => !tly1 x) l from posP_at HX.out (by simp [hs]) HU.out)
        go_wp2_with fail
        go_ret
        exact ⟨ret_int HP.out, HB.out⟩
      · have HU1 := Lib.hid (show ∀ (j : Nat) y, j < k + 1 → l[j]? = some y → (!tly1 y) = false from fun j y hj hy => by
          rcases Nat.lt_or_ge j k with h | h
          · exact HU.out j y h hy
          · obtain rfl : j = k := by omega
            have h1 := HX.out; rw [hy] at h1; injection h1 with h1; subst h1; simp [hs])
        go_wp2_with fail
        go_roundw
        case rel => exact ⟨k + 1, by omega, by go_num, HU1, HB⟩
        case measure => simp [intOf]; omega
    · obtain rfl : k = n := by omega
      have HP := Lib.hid (show -1 = posP (fun x => !tly1 x) l from posP_none (fun j y hy => HU.out j y (by have := (List.getElem?_eq_some_iff.1 hy).1; rw [HN.out] at this; exact this) hy))
      go_wp2_with fail
      go_ret
      exact ⟨ret_int HP.out, HB.out⟩
theorem any_tly (l : List Int) : (l.any fun x => !tly1 x) = !tly l := by
  unfold tly
  induction l with
  | nil => rfl
  | cons x r ih => simp [ih]

set_option maxRecDepth 100000 in
set_option maxHeartbeats 2000000 in
theorem contains_odd (l : List Int) (p : Option Addr) (n c : Nat) (w : World) (hn : l.length = n) (hl : n ≤ 1000000000) (hr : Rd w p (ints l)) :
    Calls Try.prog 131 #[.slice p n c, .func (.func 130) #[] #[]] w fun e w' => e = .returned (.bool (!tly l)) ∧ Below w.heap.size w w' := by
  have HI := index_odd l p n c w hn hl hr
  have HP := Lib.hid (show decide (0 ≤ posP (fun x => !tly1 x) l) = !tly l by rw [posP_nn, any_tly])
  obtain ⟨v, hv⟩ : ∃ v, posP (fun x => !tly1 x) l = v := ⟨_, rfl⟩
  obtain ⟨bb, hb⟩ : ∃ bb, (!tly l) = bb := ⟨_, rfl⟩
  rw [hv] at HI
  rw [hv, hb] at HP
  rw [hb]
  have HI := Lib.hid HI
  clear hn hr hv hb
  go_enter Try.func131, Try.ntmps131
  go_wp2_with fail
  refine ((HI.out)).mono ?_
  rintro e w1 ⟨rfl, b⟩
  have Sw1 := Lib.hid b.size
  have HB := Lib.hid (chain0 (w := w) (by repeat (first | with_reducible exact Below.refl _ _ | with_reducible exact HB.out | with_reducible apply Below.drew | with_reducible apply bdN | with_reducible refine Below.alloc ?_ (by first | exact Nat.le_refl _ | with_reducible exact HB.out.size | omega | (simp; done) | (simp; omega) | (have := HB.out.size; simp at *; omega)) _ | with_reducible refine Below.setCell ?_ (by first | exact Nat.le_refl _ | with_reducible exact HB.out.size | omega | (simp; done) | (simp; omega) | (have := HB.out.size; simp at *; omega)) _)) b)
  clear b
  go_wp2_with fail
  go_ret
  exact ⟨ret_bool HP.out, HB.out⟩

set_option maxRecDepth 100000 in
set_option maxHeartbeats 2000000 in
theorem are_tallies (l : List Int) (p : Option Addr) (n c k : Nat) (w : World) (hn : l.length = n) (hl : n ≤ 1000000000) (hr : Rd w p (ints l)) :
    Calls Try.prog 105 #[.slice p n c, .int .i64 k] w fun e w' => e = .returned (.bool (decide (n = k) && tly l)) ∧ Below w.heap.size w w' := by
  have HN := Lib.hid hn
  have HR := Lib.hid hr
  clear hn hr
  by_cases hk : n = k
  · subst hk
    have HT : Hid ((decide (n = n) && tly l) = tly l) := Lib.hid (by simp)
    rw [HT.out]
    obtain ⟨q, hq⟩ : ∃ q, tly l = q := ⟨_, rfl⟩
    have HC := Lib.hid (fun w h => contains_odd l p n c w HN.out hl h)
    rw [hq] at HC ⊢
    clear hq
    go_enter Try.func105, Try.ntmps105
    go_wp2_with fail
    refine ((HC.out _ (by repeat (first | with_reducible exact HR.out | with_reducible apply Rd.drewN | with_reducible apply Rd.drew | with_reducible apply Rd.alloc)))).mono ?_
    rintro e w1 ⟨rfl, b⟩
    have Sw1 := Lib.hid b.size
    have HB := Lib.hid (chain0 (w := w) (by repeat (first | with_reducible exact Below.refl _ _ | with_reducible exact HB.out | with_reducible apply Below.drew | with_reducible apply bdN | with_reducible refine Below.alloc ?_ (by first | exact Nat.le_refl _ | with_reducible exact HB.out.size | omega | (simp; done) | (simp; omega) | (have := HB.out.size; simp at *; omega)) _ | with_reducible refine Below.setCell ?_ (by first | exact Nat.le_refl _ | with_reducible exact HB.out.size | omega | (simp; done) | (simp; omega) | (have := HB.out.size; simp at *; omega)) _)) b)
    have HR := Lib.hid (Rd.below (by repeat (first | with_reducible exact HR.out | with_reducible apply Rd.drewN | with_reducible apply Rd.drew | with_reducible apply Rd.alloc)) b)
    clear b
    go_wp2_with fail
    go_ret
    exact ⟨ret_bool (by simp), HB.out⟩
  · have HT : Hid ((decide (n = k) && tly l) = false) := Lib.hid (by simp [hk])
    rw [HT.out]
    have hk2 : ((n : Int) == (k : Int)) = false := by simp; omega
    clear hk
    go_enter Try.func105, Try.ntmps105
    go_wp2_with fail
    go_ret
    exact ⟨rfl, by repeat (first | with_reducible exact Below.refl _ _ | with_reducible exact HB.out | with_reducible apply Below.drew | with_reducible apply bdN | with_reducible refine Below.alloc ?_ (by first | exact Nat.le_refl _ | with_reducible exact HB.out.size | omega | (simp; done) | (simp; omega) | (have := HB.out.size; simp at *; omega)) _ | with_reducible refine Below.setCell ?_ (by first | exact Nat.le_refl _ | with_reducible exact HB.out.size | omega | (simp; done) | (simp; omega) | (have := HB.out.size; simp at *; omega)) _)⟩

theorem plI_N (n : Nat) : plI (n : Int) = plN n := by unfold plI plN; rw [Bool.eq_iff_iff, decide_eq_true_eq, decide_eq_true_eq]; omega
set_option maxRecDepth 100000 in
set_option maxHeartbeats 4000000 in
theorem is_game (g : Gm) (p ps pw : Option Addr) (n c ns cs nw cw : Nat) (w : World) (hf : FitG n c ns cs nw cw p ps pw g) (hr : RdG w p ps pw g.l g.sc g.wr) :
    Calls Try.prog 68 #[gval g.s g.nx (.slice p n c) (.slice ps ns cs) (.slice pw nw cw)] w fun e w' => e = .returned (.bool g.ok) ∧ Below w.heap.size w w' := by
  have HF := Lib.hid hf
  have HR := Lib.hid hr
  have HP := Lib.hid (fun w => can_play (ns : Int) w)
  have HS := Lib.hid (fun w h => are_tallies g.sc ps ns cs ns w HF.out.hs (by have := HF.out.s1; omega) h)
  have HW := Lib.hid (fun w h => are_tallies g.wr pw nw cw ns w HF.out.hw (by have := HF.out.w1; omega) h)
  have HD := Lib.hid (fun w h => impl_isdeal g.s g.nx g.l p n c w HF.out.hn (by have := HF.out.n1; omega) HF.out.hc h HF.out.wf)
  have HT : Hid (g.ok = (plN ns && ((decide (ns = ns) && tly g.sc) && ((decide (nw = ns) && tly g.wr) && (Dl.mk g.s g.nx g.l).ok)))) := Lib.hid (by
    unfold Gm.ok
    rw [HF.out.hs, HF.out.hw]
    simp [Gm.d, Bool.and_assoc])
  rw [plI_N] at HP
  obtain ⟨b1, hb1⟩ : ∃ b1, plN ns = b1 := ⟨_, rfl⟩
  obtain ⟨b2, hb2⟩ : ∃ b2, (decide (ns = ns) && tly g.sc) = b2 := ⟨_, rfl⟩
  obtain ⟨b3, hb3⟩ : ∃ b3, (decide (nw = ns) && tly g.wr) = b3 := ⟨_, rfl⟩
  obtain ⟨b4, hb4⟩ : ∃ b4, (Dl.mk g.s g.nx g.l).ok = b4 := ⟨_, rfl⟩
  rw [hb1] at HP
  rw [hb2] at HS
  rw [hb3] at HW
  rw [hb4] at HD
  rw [hb1, hb2, hb3, hb4] at HT
  obtain ⟨s, nx, l, sc, wr⟩ := g
  simp only at HR HS HW HD ⊢
  clear hf hr hb1 hb2 hb3 hb4
  cases b1
  · go_enter Try.func68, Try.ntmps68
    go_wp2_with fail
    refine ((HP.out _)).mono ?_
    rintro e w1 ⟨rfl, b⟩
    have Sw1 := Lib.hid b.size
    have HB := Lib.hid (chain0 (w := w) (by repeat (first | with_reducible exact Below.refl _ _ | with_reducible exact HB.out | with_reducible apply Below.drew | with_reducible apply bdN | with_reducible refine Below.alloc ?_ (by first | exact Nat.le_refl _ | with_reducible exact HB.out.size | omega | (simp; done) | (simp; omega) | (have := HB.out.size; simp at *; omega)) _ | with_reducible refine Below.setCell ?_ (by first | exact Nat.le_refl _ | with_reducible exact HB.out.size | omega | (simp; done) | (simp; omega) | (have := HB.out.size; simp at *; omega)) _)) b)
    have K1 : Hid (GBox _ (w.heap.size) (⟨51, s, nx, .slice p n c, .slice ps ns cs, .slice pw nw cw⟩)) := Lib.hid (GBox.below (by repeat (first | with_reducible exact K1.out | with_reducible apply GBox.drewN | with_reducible apply GBox.drew | (with_reducible refine GBox.newAt ?_ ?_ <;> first | (simp; done) | rfl) | with_reducible apply GBox.alloc)) b)
    try clear k1a k1b k1c k1d k1e k1z
    have k1z := K1.out.lt
    obtain ⟨k1a, k1b, k1c, k1d, k1e⟩ := K1.out.cell
    clear b
    go_wp2_with fail
    go_ret
    exact ⟨ret_bool HT.out.symm, by repeat (first | with_reducible exact Below.refl _ _ | with_reducible exact HB.out | with_reducible apply Below.drew | with_reducible apply bdN | with_reducible refine Below.alloc ?_ (by first | exact Nat.le_refl _ | with_reducible exact HB.out.size | omega | (simp; done) | (simp; omega) | (have := HB.out.size; simp at *; omega)) _ | with_reducible refine Below.setCell ?_ (by first | exact Nat.le_refl _ | with_reducible exact HB.out.size | omega | (simp; done) | (simp; omega) | (have := HB.out.size; simp at *; omega)) _)⟩
  · cases b2
    · go_enter Try.func68, Try.ntmps68
      go_wp2_with fail
      refine ((HP.out _)).mono ?_
      rintro e w1 ⟨rfl, b⟩
      have Sw1 := Lib.hid b.size
      have HB := Lib.hid (chain0 (w := w) (by repeat (first | with_reducible exact Below.refl _ _ | with_reducible exact HB.out | with_reducible apply Below.drew | with_reducible apply bdN | with_reducible refine Below.alloc ?_ (by first | exact Nat.le_refl _ | with_reducible exact HB.out.size | omega | (simp; done) | (simp; omega) | (have := HB.out.size; simp at *; omega)) _ | with_reducible refine Below.setCell ?_ (by first | exact Nat.le_refl _ | with_reducible exact HB.out.size | omega | (simp; done) | (simp; omega) | (have := HB.out.size; simp at *; omega)) _)) b)
      have HR := Lib.hid (RdG.below (by repeat (first | with_reducible exact HR.out | with_reducible apply RdG.drewN | with_reducible apply RdG.drew | with_reducible apply RdG.alloc)) b)
      have K1 : Hid (GBox _ (w.heap.size) (⟨51, s, nx, .slice p n c, .slice ps ns cs, .slice pw nw cw⟩)) := Lib.hid (GBox.below (by repeat (first | with_reducible exact K1.out | with_reducible apply GBox.drewN | with_reducible apply GBox.drew | (with_reducible refine GBox.newAt ?_ ?_ <;> first | (simp; done) | rfl) | with_reducible apply GBox.alloc)) b)
      try clear k1a k1b k1c k1d k1e k1z
      have k1z := K1.out.lt
      obtain ⟨k1a, k1b, k1c, k1d, k1e⟩ := K1.out.cell
      clear b
      go_wp2_with fail
      refine ((HS.out _ HR.out.b)).mono ?_
      rintro e w2 ⟨rfl, b⟩
      have Sw2 := Lib.hid b.size
      have HB := Lib.hid (chain0 (w := w) (by repeat (first | with_reducible exact Below.refl _ _ | with_reducible exact HB.out | with_reducible apply Below.drew | with_reducible apply bdN | with_reducible refine Below.alloc ?_ (by first | exact Nat.le_refl _ | with_reducible exact HB.out.size | omega | (simp; done) | (simp; omega) | (have := HB.out.size; simp at *; omega)) _ | with_reducible refine Below.setCell ?_ (by first | exact Nat.le_refl _ | with_reducible exact HB.out.size | omega | (simp; done) | (simp; omega) | (have := HB.out.size; simp at *; omega)) _)) b)
      have HR := Lib.hid (RdG.below (by repeat (first | with_reducible exact HR.out | with_reducible apply RdG.drewN | with_reducible apply RdG.drew | with_reducible apply RdG.alloc)) b)
      have K1 : Hid (GBox _ (w.heap.size) (⟨51, s, nx, .slice p n c, .slice ps ns cs, .slice pw nw cw⟩)) := Lib.hid (GBox.below (by repeat (first | with_reducible exact K1.out | with_reducible apply GBox.drewN | with_reducible apply GBox.drew | (with_reducible refine GBox.newAt ?_ ?_ <;> first | (simp; done) | rfl) | with_reducible apply GBox.alloc)) b)
      try clear k1a k1b k1c k1d k1e k1z
      have k1z := K1.out.lt
      obtain ⟨k1a, k1b, k1c, k1d, k1e⟩ := K1.out.cell
      clear b
      go_wp2_with fail
      go_ret
      exact ⟨ret_bool HT.out.symm, by repeat (first | with_reducible exact Below.refl _ _ | with_reducible exact HB.out | with_reducible apply Below.drew | with_reducible apply bdN | with_reducible refine Below.alloc ?_ (by first | exact Nat.le_refl _ | with_reducible exact HB.out.size | omega | (simp; done) | (simp; omega) | (have := HB.out.size; simp at *; omega)) _ | with_reducible refine Below.setCell ?_ (by first | exact Nat.le_refl _ | with_reducible exact HB.out.size | omega | (simp; done) | (simp; omega) | (have := HB.out.size; simp at *; omega)) _)⟩
    · cases b3
      · go_enter Try.func68, Try.ntmps68
        go_wp2_with fail
        refine ((HP.out _)).mono ?_
        rintro e w1 ⟨rfl, b⟩
        have Sw1 := Lib.hid b.size
        have HB := Lib.hid (chain0 (w := w) (by repeat (first | with_reducible exact Below.refl _ _ | with_reducible exact HB.out | with_reducible apply Below.drew | with_reducible apply bdN | with_reducible refine Below.alloc ?_ (by first | exact Nat.le_refl _ | with_reducible exact HB.out.size | omega | (simp; done) | (simp; omega) | (have := HB.out.size; simp at *; omega)) _ | with_reducible refine Below.setCell ?_ (by first | exact Nat.le_refl _ | with_reducible exact HB.out.size | omega | (simp; done) | (simp; omega) | (have := HB.out.size; simp at *; omega)) _)) b)
        have HR := Lib.hid (RdG.below (by repeat (first | with_reducible exact HR.out | with_reducible apply RdG.drewN | with_reducible apply RdG.drew | with_reducible apply RdG.alloc)) b)
        have K1 : Hid (GBox _ (w.heap.size) (⟨51, s, nx, .slice p n c, .slice ps ns cs, .slice pw nw cw⟩)) := Lib.hid (GBox.below (by repeat (first | with_reducible exact K1.out | with_reducible apply GBox.drewN | with_reducible apply GBox.drew | (with_reducible refine GBox.newAt ?_ ?_ <;> first | (simp; done) | rfl) | with_reducible apply GBox.alloc)) b)
        try clear k1a k1b k1c k1d k1e k1z
        have k1z := K1.out.lt
        obtain ⟨k1a, k1b, k1c, k1d, k1e⟩ := K1.out.cell
        clear b
        go_wp2_with fail
        refine ((HS.out _ HR.out.b)).mono ?_
        rintro e w2 ⟨rfl, b⟩
        have Sw2 := Lib.hid b.size
        have HB := Lib.hid (chain0 (w := w) (by repeat (first | with_reducible exact Below.refl _ _ | with_reducible exact HB.out | with_reducible apply Below.drew | with_reducible apply bdN | with_reducible refine Below.alloc ?_ (by first | exact Nat.le_refl _ | with_reducible exact HB.out.size | omega | (simp; done) | (simp; omega) | (have := HB.out.size; simp at *; omega)) _ | with_reducible refine Below.setCell ?_ (by first | exact Nat.le_refl _ | with_reducible exact HB.out.size | omega | (simp; done) | (simp; omega) | (have := HB.out.size; simp at *; omega)) _)) b)
        have HR := Lib.hid (RdG.below (by repeat (first | with_reducible exact HR.out | with_reducible apply RdG.drewN | with_reducible apply RdG.drew | with_reducible apply RdG.alloc)) b)
        have K1 : Hid (GBox _ (w.heap.size) (⟨51, s, nx, .slice p n c, .slice ps ns cs, .slice pw nw cw⟩)) := Lib.hid (GBox.below (by repeat (first | with_reducible exact K1.out | with_reducible apply GBox.drewN | with_reducible apply GBox.drew | (with_reducible refine GBox.newAt ?_ ?_ <;> first | (simp; done) | rfl) | with_reducible apply GBox.alloc)) b)
        try clear k1a k1b k1c k1d k1e k1z
        have k1z := K1.out.lt
        obtain ⟨k1a, k1b, k1c, k1d, k1e⟩ := K1.out.cell
        clear b
        go_wp2_with fail
        refine ((HW.out _ HR.out.c)).mono ?_
        rintro e w3 ⟨rfl, b⟩
        have Sw3 := Lib.hid b.size
        have HB := Lib.hid (chain0 (w := w) (by repeat (first | with_reducible exact Below.refl _ _ | with_reducible exact HB.out | with_reducible apply Below.drew | with_reducible apply bdN | with_reducible refine Below.alloc ?_ (by first | exact Nat.le_refl _ | with_reducible exact HB.out.size | omega | (simp; done) | (simp; omega) | (have := HB.out.size; simp at *; omega)) _ | with_reducible refine Below.setCell ?_ (by first | exact Nat.le_refl _ | with_reducible exact HB.out.size | omega | (simp; done) | (simp; omega) | (have := HB.out.size; simp at *; omega)) _)) b)
        have HR := Lib.hid (RdG.below (by repeat (first | with_reducible exact HR.out | with_reducible apply RdG.drewN | with_reducible apply RdG.drew | with_reducible apply RdG.alloc)) b)
        have K1 : Hid (GBox _ (w.heap.size) (⟨51, s, nx, .slice p n c, .slice ps ns cs, .slice pw nw cw⟩)) := Lib.hid (GBox.below (by repeat (first | with_reducible exact K1.out | with_reducible apply GBox.drewN | with_reducible apply GBox.drew | (with_reducible refine GBox.newAt ?_ ?_ <;> first | (simp; done) | rfl) | with_reducible apply GBox.alloc)) b)
        try clear k1a k1b k1c k1d k1e k1z
        have k1z := K1.out.lt
        obtain ⟨k1a, k1b, k1c, k1d, k1e⟩ := K1.out.cell
        clear b
        go_wp2_with fail
        go_ret
        exact ⟨ret_bool HT.out.symm, by repeat (first | with_reducible exact Below.refl _ _ | with_reducible exact HB.out | with_reducible apply Below.drew | with_reducible apply bdN | with_reducible refine Below.alloc ?_ (by first | exact Nat.le_refl _ | with_reducible exact HB.out.size | omega | (simp; done) | (simp; omega) | (have := HB.out.size; simp at *; omega)) _ | with_reducible refine Below.setCell ?_ (by first | exact Nat.le_refl _ | with_reducible exact HB.out.size | omega | (simp; done) | (simp; omega) | (have := HB.out.size; simp at *; omega)) _)⟩
      · go_enter Try.func68, Try.ntmps68
        go_wp2_with fail
        refine ((HP.out _)).mono ?_
        rintro e w1 ⟨rfl, b⟩
        have Sw1 := Lib.hid b.size
        have HB := Lib.hid (chain0 (w := w) (by repeat (first | with_reducible exact Below.refl _ _ | with_reducible exact HB.out | with_reducible apply Below.drew | with_reducible apply bdN | with_reducible refine Below.alloc ?_ (by first | exact Nat.le_refl _ | with_reducible exact HB.out.size | omega | (simp; done) | (simp; omega) | (have := HB.out.size; simp at *; omega)) _ | with_reducible refine Below.setCell ?_ (by first | exact Nat.le_refl _ | with_reducible exact HB.out.size | omega | (simp; done) | (simp; omega) | (have := HB.out.size; simp at *; omega)) _)) b)
        have HR := Lib.hid (RdG.below (by repeat (first | with_reducible exact HR.out | with_reducible apply RdG.drewN | with_reducible apply RdG.drew | with_reducible apply RdG.alloc)) b)
        have K1 : Hid (GBox _ (w.heap.size) (⟨51, s, nx, .slice p n c, .slice ps ns cs, .slice pw nw cw⟩)) := Lib.hid (GBox.below (by repeat (first | with_reducible exact K1.out | with_reducible apply GBox.drewN | with_reducible apply GBox.drew | (with_reducible refine GBox.newAt ?_ ?_ <;> first | (simp; done) | rfl) | with_reducible apply GBox.alloc)) b)
        try clear k1a k1b k1c k1d k1e k1z
        have k1z := K1.out.lt
        obtain ⟨k1a, k1b, k1c, k1d, k1e⟩ := K1.out.cell
        clear b
        go_wp2_with fail
        refine ((HS.out _ HR.out.b)).mono ?_
        rintro e w2 ⟨rfl, b⟩
        have Sw2 := Lib.hid b.size
        have HB := Lib.hid (chain0 (w := w) (by repeat (first | with_reducible exact Below.refl _ _ | with_reducible exact HB.out | with_reducible apply Below.drew | with_reducible apply bdN | with_reducible refine Below.alloc ?_ (by first | exact Nat.le_refl _ | with_reducible exact HB.out.size | omega | (simp; done) | (simp; omega) | (have := HB.out.size; simp at *; omega)) _ | with_reducible refine Below.setCell ?_ (by first | exact Nat.le_refl _ | with_reducible exact HB.out.size | omega | (simp; done) | (simp; omega) | (have := HB.out.size; simp at *; omega)) _)) b)
        have HR := Lib.hid (RdG.below (by repeat (first | with_reducible exact HR.out | with_reducible apply RdG.drewN | with_reducible apply RdG.drew | with_reducible apply RdG.alloc)) b)
        have K1 : Hid (GBox _ (w.heap.size) (⟨51, s, nx, .slice p n c, .slice ps ns cs, .slice pw nw cw⟩)) := Lib.hid (GBox.below (by repeat (first | with_reducible exact K1.out | with_reducible apply GBox.drewN | with_reducible apply GBox.drew | (with_reducible refine GBox.newAt ?_ ?_ <;> first | (simp; done) | rfl) | with_reducible apply GBox.alloc)) b)
        try clear k1a k1b k1c k1d k1e k1z
        have k1z := K1.out.lt
        obtain ⟨k1a, k1b, k1c, k1d, k1e⟩ := K1.out.cell
        clear b
        go_wp2_with fail
        refine ((HW.out _ HR.out.c)).mono ?_
        rintro e w3 ⟨rfl, b⟩
        have Sw3 := Lib.hid b.size
        have HB := Lib.hid (chain0 (w := w) (by repeat (first | with_reducible exact Below.refl _ _ | with_reducible exact HB.out | with_reducible apply Below.drew | with_reducible apply bdN | with_reducible refine Below.alloc ?_ (by first | exact Nat.le_refl _ | with_reducible exact HB.out.size | omega | (simp; done) | (simp; omega) | (have := HB.out.size; simp at *; omega)) _ | with_reducible refine Below.setCell ?_ (by first | exact Nat.le_refl _ | with_reducible exact HB.out.size | omega | (simp; done) | (simp; omega) | (have := HB.out.size; simp at *; omega)) _)) b)
        have HR := Lib.hid (RdG.below (by repeat (first | with_reducible exact HR.out | with_reducible apply RdG.drewN | with_reducible apply RdG.drew | with_reducible apply RdG.alloc)) b)
        have K1 : Hid (GBox _ (w.heap.size) (⟨51, s, nx, .slice p n c, .slice ps ns cs, .slice pw nw cw⟩)) := Lib.hid (GBox.below (by repeat (first | with_reducible exact K1.out | with_reducible apply GBox.drewN | with_reducible apply GBox.drew | (with_reducible refine GBox.newAt ?_ ?_ <;> first | (simp; done) | rfl) | with_reducible apply GBox.alloc)) b)
        try clear k1a k1b k1c k1d k1e k1z
        have k1z := K1.out.lt
        obtain ⟨k1a, k1b, k1c, k1d, k1e⟩ := K1.out.cell
        clear b
        go_wp2_with fail
        refine ((HD.out _ HR.out.a)).mono ?_
        rintro e w4 ⟨rfl, b⟩
        have Sw4 := Lib.hid b.size
        have HB := Lib.hid (chain0 (w := w) (by repeat (first | with_reducible exact Below.refl _ _ | with_reducible exact HB.out | with_reducible apply Below.drew | with_reducible apply bdN | with_reducible refine Below.alloc ?_ (by first | exact Nat.le_refl _ | with_reducible exact HB.out.size | omega | (simp; done) | (simp; omega) | (have := HB.out.size; simp at *; omega)) _ | with_reducible refine Below.setCell ?_ (by first | exact Nat.le_refl _ | with_reducible exact HB.out.size | omega | (simp; done) | (simp; omega) | (have := HB.out.size; simp at *; omega)) _)) b)
        have HR := Lib.hid (RdG.below (by repeat (first | with_reducible exact HR.out | with_reducible apply RdG.drewN | with_reducible apply RdG.drew | with_reducible apply RdG.alloc)) b)
        have K1 : Hid (GBox _ (w.heap.size) (⟨51, s, nx, .slice p n c, .slice ps ns cs, .slice pw nw cw⟩)) := Lib.hid (GBox.below (by repeat (first | with_reducible exact K1.out | with_reducible apply GBox.drewN | with_reducible apply GBox.drew | (with_reducible refine GBox.newAt ?_ ?_ <;> first | (simp; done) | rfl) | with_reducible apply GBox.alloc)) b)
        try clear k1a k1b k1c k1d k1e k1z
        have k1z := K1.out.lt
        obtain ⟨k1a, k1b, k1c, k1d, k1e⟩ := K1.out.cell
        clear b
        go_wp2_with fail
        go_ret
        exact ⟨ret_bool (by rw [HT.out]; simp), by repeat (first | with_reducible exact Below.refl _ _ | with_reducible exact HB.out | with_reducible apply Below.drew | with_reducible apply bdN | with_reducible refine Below.alloc ?_ (by first | exact Nat.le_refl _ | with_reducible exact HB.out.size | omega | (simp; done) | (simp; omega) | (have := HB.out.size; simp at *; omega)) _ | with_reducible refine Below.setCell ?_ (by first | exact Nat.le_refl _ | with_reducible exact HB.out.size | omega | (simp; done) | (simp; omega) | (have := HB.out.size; simp at *; omega)) _)⟩
end Go.Proofs.Ytjanphcfflahkaa.game

/- Is a Game valid? The model. -/
namespace Go.Proofs.Ytjanphcfflahkaa.game
open Go.RowKit
open cards deal
set_option linter.unusedVariables false

/-- What the model has seen of the tallies so far. -/
def okT (g : Gm) (k : Nat) : Prop := ∀ j, j < k → (∀ x, g.sc[j]? = some x → 0 ≤ x ∧ x ≤ 60) ∧ (∀ x, g.wr[j]? = some x → 0 ≤ x ∧ x ≤ 60)
theorem okT_end {g : Gm} (hd : g.d.okP) (h1 : 1 ≤ g.sc.length) (h4 : g.sc.length ≤ 4) (he : g.wr.length = g.sc.length) (h : okT g g.sc.length) : g.ok = true :=
  Gm.ok_iff.2 ⟨h1, h4, tly_all (fun k x hx => (h k (List.getElem?_eq_some_iff.1 hx).1).1 x hx), he, tly_all (fun k x hx => (h k (by rw [← he]; exact (List.getElem?_eq_some_iff.1 hx).1)).2 x hx), hd⟩

set_option maxRecDepth 100000 in
set_option maxHeartbeats 4000000 in
theorem l8_game (g : Gm) (p ps pw : Option Addr) (n c ns cs nw cw : Nat) (w : World) (hf : FitG n c ns cs nw cw p ps pw g) (hr : RdG w p ps pw g.l g.sc g.wr) :
    Calls Try.prog 63 #[gval g.s g.nx (.slice p n c) (.slice ps ns cs) (.slice pw nw cw)] w fun e w' => e = .returned (.bool g.ok) ∧ Below w.heap.size w w' := by
  have HF := Lib.hid hf
  have HR := Lib.hid hr
  have HR0 := Lib.hid hr
  have HD := Lib.hid (fun w h => l4_deal g.s g.nx g.l p n c w HF.out.hn (by have := HF.out.n1; omega) HF.out.hc h HF.out.wf)
  have HP := Lib.hid (fun w => l1_in (ns : Int) 1 4 w)
  obtain ⟨b1, hb1⟩ : ∃ b1, (Dl.mk g.s g.nx g.l).ok = b1 := ⟨_, rfl⟩
  have HB1 := Lib.hid hb1
  rw [hb1] at HD
  obtain ⟨b2, hb2⟩ : ∃ b2, decide (1 ≤ (ns : Int) ∧ (ns : Int) ≤ 4) = b2 := ⟨_, rfl⟩
  have HB2 := Lib.hid hb2
  rw [hb2] at HP
  have HS := Lib.hid HF.out.hs
  have HW := Lib.hid HF.out.hw
  clear hf hr hb1 hb2
  cases b1
  · have HT := Lib.hid (Gm.no (g := g) (fun h => by have := Dl.ok_iff.2 h.d; have h2 := HB1.out; unfold Gm.d at this; rw [this] at h2; cases h2))
    obtain ⟨s, nx, l, sc, wt⟩ := g
    simp only at HR HD ⊢
    go_enter Try.func63, Try.ntmps63
    go_wp2_with fail
    refine ((HD.out _ (RdG.a (by repeat (first | with_reducible exact HR.out | with_reducible apply RdG.drewN | with_reducible apply RdG.drew | with_reducible apply RdG.alloc))))).mono ?_
    rintro e w1 ⟨rfl, b⟩
    have Sw1 := Lib.hid b.size
    have HB := Lib.hid (chain0 (w := w) (by repeat (first | with_reducible exact Below.refl _ _ | with_reducible exact HB.out | with_reducible apply Below.drew | with_reducible apply bdN | with_reducible refine Below.alloc ?_ (by first | exact Nat.le_refl _ | with_reducible exact HB.out.size | omega | (simp; done) | (simp; omega) | (have := HB.out.size; simp at *; omega)) _ | with_reducible refine Below.setCell ?_ (by first | exact Nat.le_refl _ | with_reducible exact HB.out.size | omega | (simp; done) | (simp; omega) | (have := HB.out.size; simp at *; omega)) _)) b)
    have HR := Lib.hid (RdG.below (by repeat (first | with_reducible exact HR.out | with_reducible apply RdG.drewN | with_reducible apply RdG.drew | with_reducible apply RdG.alloc)) b)
    have K1 : Hid (GBox _ (w.heap.size) (⟨51, s, nx, .slice p n c, .slice ps ns cs, .slice pw nw cw⟩)) := Lib.hid (GBox.below (by repeat (first | with_reducible exact K1.out | with_reducible apply GBox.drewN | with_reducible apply GBox.drew | (with_reducible refine GBox.newAt ?_ ?_ <;> first | (simp; done) | rfl) | with_reducible apply GBox.alloc)) b)
    try clear k1a k1b k1c k1d k1e k1z
    have k1z := K1.out.lt
    obtain ⟨k1a, k1b, k1c, k1d, k1e⟩ := K1.out.cell
    clear b
    go_wp2_with fail
    go_ret
    exact ⟨ret_bool HT.out.symm, by repeat (first | with_reducible exact Below.refl _ _ | with_reducible exact HB.out | with_reducible apply Below.drew | with_reducible apply bdN | with_reducible refine Below.alloc ?_ (by first | exact Nat.le_refl _ | with_reducible exact HB.out.size | omega | (simp; done) | (simp; omega) | (have := HB.out.size; simp at *; omega)) _ | with_reducible refine Below.setCell ?_ (by first | exact Nat.le_refl _ | with_reducible exact HB.out.size | omega | (simp; done) | (simp; omega) | (have := HB.out.size; simp at *; omega)) _)⟩
  · cases b2
    · have HT := Lib.hid (Gm.no (g := g) (fun h => by have h2 := of_decide_eq_false HB2.out; have h1 := h.p1; have h4 := h.p4; have h3 := HS.out; omega))
      obtain ⟨s, nx, l, sc, wt⟩ := g
      simp only at HR HD ⊢
      go_enter Try.func63, Try.ntmps63
      go_wp2_with fail
      refine ((HD.out _ (RdG.a (by repeat (first | with_reducible exact HR.out | with_reducible apply RdG.drewN | with_reducible apply RdG.drew | with_reducible apply RdG.alloc))))).mono ?_
      rintro e w1 ⟨rfl, b⟩
      have Sw1 := Lib.hid b.size
      have HB := Lib.hid (chain0 (w := w) (by repeat (first | with_reducible exact Below.refl _ _ | with_reducible exact HB.out | with_reducible apply Below.drew | with_reducible apply bdN | with_reducible refine Below.alloc ?_ (by first | exact Nat.le_refl _ | with_reducible exact HB.out.size | omega | (simp; done) | (simp; omega) | (have := HB.out.size; simp at *; omega)) _ | with_reducible refine Below.setCell ?_ (by first | exact Nat.le_refl _ | with_reducible exact HB.out.size | omega | (simp; done) | (simp; omega) | (have := HB.out.size; simp at *; omega)) _)) b)
      have HR := Lib.hid (RdG.below (by repeat (first | with_reducible exact HR.out | with_reducible apply RdG.drewN | with_reducible apply RdG.drew | with_reducible apply RdG.alloc)) b)
      have K1 : Hid (GBox _ (w.heap.size) (⟨51, s, nx, .slice p n c, .slice ps ns cs, .slice pw nw cw⟩)) := Lib.hid (GBox.below (by repeat (first | with_reducible exact K1.out | with_reducible apply GBox.drewN | with_reducible apply GBox.drew | (with_reducible refine GBox.newAt ?_ ?_ <;> first | (simp; done) | rfl) | with_reducible apply GBox.alloc)) b)
      try clear k1a k1b k1c k1d k1e k1z
      have k1z := K1.out.lt
      obtain ⟨k1a, k1b, k1c, k1d, k1e⟩ := K1.out.cell
      clear b
      go_wp2_with fail
      refine ((HP.out _)).mono ?_
      rintro e w2 ⟨rfl, b⟩
      have Sw2 := Lib.hid b.size
      have HB := Lib.hid (chain0 (w := w) (by repeat (first | with_reducible exact Below.refl _ _ | with_reducible exact HB.out | with_reducible apply Below.drew | with_reducible apply bdN | with_reducible refine Below.alloc ?_ (by first | exact Nat.le_refl _ | with_reducible exact HB.out.size | omega | (simp; done) | (simp; omega) | (have := HB.out.size; simp at *; omega)) _ | with_reducible refine Below.setCell ?_ (by first | exact Nat.le_refl _ | with_reducible exact HB.out.size | omega | (simp; done) | (simp; omega) | (have := HB.out.size; simp at *; omega)) _)) b)
      have HR := Lib.hid (RdG.below (by repeat (first | with_reducible exact HR.out | with_reducible apply RdG.drewN | with_reducible apply RdG.drew | with_reducible apply RdG.alloc)) b)
      have K1 : Hid (GBox _ (w.heap.size) (⟨51, s, nx, .slice p n c, .slice ps ns cs, .slice pw nw cw⟩)) := Lib.hid (GBox.below (by repeat (first | with_reducible exact K1.out | with_reducible apply GBox.drewN | with_reducible apply GBox.drew | (with_reducible refine GBox.newAt ?_ ?_ <;> first | (simp; done) | rfl) | with_reducible apply GBox.alloc)) b)
      try clear k1a k1b k1c k1d k1e k1z
      have k1z := K1.out.lt
      obtain ⟨k1a, k1b, k1c, k1d, k1e⟩ := K1.out.cell
      clear b
      go_wp2_with fail
      go_ret
      exact ⟨ret_bool HT.out.symm, by repeat (first | with_reducible exact Below.refl _ _ | with_reducible exact HB.out | with_reducible apply Below.drew | with_reducible apply bdN | with_reducible refine Below.alloc ?_ (by first | exact Nat.le_refl _ | with_reducible exact HB.out.size | omega | (simp; done) | (simp; omega) | (have := HB.out.size; simp at *; omega)) _ | with_reducible refine Below.setCell ?_ (by first | exact Nat.le_refl _ | with_reducible exact HB.out.size | omega | (simp; done) | (simp; omega) | (have := HB.out.size; simp at *; omega)) _)⟩
    · by_cases hw : nw = ns
      · subst hw
        have hi := of_decide_eq_true HB2.out
        have HE := Lib.hid (fun h => okT_end (g := g) (Dl.ok_iff.1 HB1.out) (by rw [HS.out]; omega) (by rw [HS.out]; omega) (by rw [HS.out, HW.out]) h)
        obtain ⟨s, nx, l, sc, wt⟩ := g
        simp only at HR HR0 HD HS HW HE ⊢
        have hn4 : nw ≤ 4 := by omega
        clear hi
        go_enter Try.func63, Try.ntmps63
        go_wp2_with fail
        refine ((HD.out _ (RdG.a (by repeat (first | with_reducible exact HR.out | with_reducible apply RdG.drewN | with_reducible apply RdG.drew | with_reducible apply RdG.alloc))))).mono ?_
        rintro e w1 ⟨rfl, b⟩
        have Sw1 := Lib.hid b.size
        have HB := Lib.hid (chain0 (w := w) (by repeat (first | with_reducible exact Below.refl _ _ | with_reducible exact HB.out | with_reducible apply Below.drew | with_reducible apply bdN | with_reducible refine Below.alloc ?_ (by first | exact Nat.le_refl _ | with_reducible exact HB.out.size | omega | (simp; done) | (simp; omega) | (have := HB.out.size; simp at *; omega)) _ | with_reducible refine Below.setCell ?_ (by first | exact Nat.le_refl _ | with_reducible exact HB.out.size | omega | (simp; done) | (simp; omega) | (have := HB.out.size; simp at *; omega)) _)) b)
        have HR := Lib.hid (RdG.below (by repeat (first | with_reducible exact HR.out | with_reducible apply RdG.drewN | with_reducible apply RdG.drew | with_reducible apply RdG.alloc)) b)
        have K1 : Hid (GBox _ (w.heap.size) (⟨51, s, nx, .slice p n c, .slice ps nw cs, .slice pw nw cw⟩)) := Lib.hid (GBox.below (by repeat (first | with_reducible exact K1.out | with_reducible apply GBox.drewN | with_reducible apply GBox.drew | (with_reducible refine GBox.newAt ?_ ?_ <;> first | (simp; done) | rfl) | with_reducible apply GBox.alloc)) b)
        try clear k1a k1b k1c k1d k1e k1z
        have k1z := K1.out.lt
        obtain ⟨k1a, k1b, k1c, k1d, k1e⟩ := K1.out.cell
        clear b
        go_wp2_with fail
        refine ((HP.out _)).mono ?_
        rintro e w2 ⟨rfl, b⟩
        have Sw2 := Lib.hid b.size
        have HB := Lib.hid (chain0 (w := w) (by repeat (first | with_reducible exact Below.refl _ _ | with_reducible exact HB.out | with_reducible apply Below.drew | with_reducible apply bdN | with_reducible refine Below.alloc ?_ (by first | exact Nat.le_refl _ | with_reducible exact HB.out.size | omega | (simp; done) | (simp; omega) | (have := HB.out.size; simp at *; omega)) _ | with_reducible refine Below.setCell ?_ (by first | exact Nat.le_refl _ | with_reducible exact HB.out.size | omega | (simp; done) | (simp; omega) | (have := HB.out.size; simp at *; omega)) _)) b)
        have HR := Lib.hid (RdG.below (by repeat (first | with_reducible exact HR.out | with_reducible apply RdG.drewN | with_reducible apply RdG.drew | with_reducible apply RdG.alloc)) b)
        have K1 : Hid (GBox _ (w.heap.size) (⟨51, s, nx, .slice p n c, .slice ps nw cs, .slice pw nw cw⟩)) := Lib.hid (GBox.below (by repeat (first | with_reducible exact K1.out | with_reducible apply GBox.drewN | with_reducible apply GBox.drew | (with_reducible refine GBox.newAt ?_ ?_ <;> first | (simp; done) | rfl) | with_reducible apply GBox.alloc)) b)
        try clear k1a k1b k1c k1d k1e k1z
        have k1z := K1.out.lt
        obtain ⟨k1a, k1b, k1c, k1d, k1e⟩ := K1.out.cell
        clear b
        go_wp2_with fail
        go_loopw [3] (fun i wr => ∃ k : Nat, k ≤ nw ∧ i = .int .i64 k ∧ Hid (okT ⟨s, nx, l, sc, wt⟩ k) ∧ Hid (Below w.heap.size w wr) ∧ Hid (GBox wr w.heap.size ⟨51, s, nx, .slice p n c, .slice ps nw cs, .slice pw nw cw⟩)) (fun i _ => nw - (intOf i).toNat)
        case atStart => exact ⟨0, Nat.zero_le _, rfl, Lib.hid (fun j h => by omega), HB, K1⟩
        case round =>
          clear HB K1 HR k1a k1b k1c k1d k1e k1z
          obtain ⟨k, hk, rfl, HI, HB, K1⟩ := hrel
          obtain ⟨k1a, k1b, k1c, k1d, k1e⟩ := K1.out.cell
          have k1z := K1.out.lt
          have m0 : (0 : Int) ≤ (k : Int) := by omega
          by_cases hlt : k < nw
          · have m1 : (k : Int) < (nw : Int) := by omega
            have HR := Lib.hid (RdG.below HR0.out HB.out)
            obtain ⟨b1, o1, x, rfl, hb1, hx, c0⟩ := HR.out.b.int (k := k) (by rw [HS.out]; exact hlt)
            obtain ⟨b2, o2, y, rfl, hb2, hy, d0⟩ := HR.out.c.int (k := k) (by rw [HW.out]; exact hlt)
            have HX := Lib.hid hx
            have HY := Lib.hid hy
            have HC1 := Lib.hid (fun w => l1_in x 0 60 w)
            have HC2 := Lib.hid (fun w => l1_in y 0 60 w)
            obtain ⟨q1, hq1⟩ : ∃ q1, decide (0 ≤ x ∧ x ≤ 60) = q1 := ⟨_, rfl⟩
            obtain ⟨q2, hq2⟩ : ∃ q2, decide (0 ≤ y ∧ y ≤ 60) = q2 := ⟨_, rfl⟩
            have HQ1 := Lib.hid hq1
            have HQ2 := Lib.hid hq2
            rw [hq1] at HC1
            rw [hq2] at HC2
            clear hx hy hq1 hq2
            cases q1
            · have HT := Lib.hid (Gm.no (g := ⟨s, nx, l, sc, wt⟩) (fun h => of_decide_eq_false HQ1.out (tly_at h.ts HX.out)))
              go_wp2_with fail
              refine (HC1.out _).mono ?_
              rintro e w3 ⟨rfl, b⟩
              have Sw3 := Lib.hid b.size
              have HB := Lib.hid (chain0 (w := w) (by repeat (first | with_reducible exact Below.refl _ _ | with_reducible exact HB.out | with_reducible apply Below.drew | with_reducible apply bdN | with_reducible refine Below.alloc ?_ (by first | exact Nat.le_refl _ | with_reducible exact HB.out.size | omega | (simp; done) | (simp; omega) | (have := HB.out.size; simp at *; omega)) _ | with_reducible refine Below.setCell ?_ (by first | exact Nat.le_refl _ | with_reducible exact HB.out.size | omega | (simp; done) | (simp; omega) | (have := HB.out.size; simp at *; omega)) _)) b)
              have K1 : Hid (GBox _ (w.heap.size) (⟨51, s, nx, .slice p n c, .slice (some ⟨b1, o1, none⟩) nw cs, .slice (some ⟨b2, o2, none⟩) nw cw⟩)) := Lib.hid (GBox.below (by repeat (first | with_reducible exact K1.out | with_reducible apply GBox.drewN | with_reducible apply GBox.drew | (with_reducible refine GBox.newAt ?_ ?_ <;> first | (simp; done) | rfl) | with_reducible apply GBox.alloc)) b)
              try clear k1a k1b k1c k1d k1e k1z
              have k1z := K1.out.lt
              obtain ⟨k1a, k1b, k1c, k1d, k1e⟩ := K1.out.cell
              clear b
              go_wp2_with fail
              go_ret
              exact ⟨ret_bool HT.out.symm, HB.out⟩
            · cases q2
              · have HT := Lib.hid (Gm.no (g := ⟨s, nx, l, sc, wt⟩) (fun h => of_decide_eq_false HQ2.out (tly_at h.tw HY.out)))
                go_wp2_with fail
                refine (HC1.out _).mono ?_
                rintro e w3 ⟨rfl, b⟩
                have d0 := (Below.cell b (p := ⟨b2, _, none⟩) hb2).trans d0
                have Sw3 := Lib.hid b.size
                have HB := Lib.hid (chain0 (w := w) (by repeat (first | with_reducible exact Below.refl _ _ | with_reducible exact HB.out | with_reducible apply Below.drew | with_reducible apply bdN | with_reducible refine Below.alloc ?_ (by first | exact Nat.le_refl _ | with_reducible exact HB.out.size | omega | (simp; done) | (simp; omega) | (have := HB.out.size; simp at *; omega)) _ | with_reducible refine Below.setCell ?_ (by first | exact Nat.le_refl _ | with_reducible exact HB.out.size | omega | (simp; done) | (simp; omega) | (have := HB.out.size; simp at *; omega)) _)) b)
                have K1 : Hid (GBox _ (w.heap.size) (⟨51, s, nx, .slice p n c, .slice (some ⟨b1, o1, none⟩) nw cs, .slice (some ⟨b2, o2, none⟩) nw cw⟩)) := Lib.hid (GBox.below (by repeat (first | with_reducible exact K1.out | with_reducible apply GBox.drewN | with_reducible apply GBox.drew | (with_reducible refine GBox.newAt ?_ ?_ <;> first | (simp; done) | rfl) | with_reducible apply GBox.alloc)) b)
                try clear k1a k1b k1c k1d k1e k1z
                have k1z := K1.out.lt
                obtain ⟨k1a, k1b, k1c, k1d, k1e⟩ := K1.out.cell
                clear b
                go_wp2_with fail
                refine (HC2.out _).mono ?_
                rintro e w4 ⟨rfl, b⟩
                have Sw4 := Lib.hid b.size
                have HB := Lib.hid (chain0 (w := w) (by repeat (first | with_reducible exact Below.refl _ _ | with_reducible exact HB.out | with_reducible apply Below.drew | with_reducible apply bdN | with_reducible refine Below.alloc ?_ (by first | exact Nat.le_refl _ | with_reducible exact HB.out.size | omega | (simp; done) | (simp; omega) | (have := HB.out.size; simp at *; omega)) _ | with_reducible refine Below.setCell ?_ (by first | exact Nat.le_refl _ | with_reducible exact HB.out.size | omega | (simp; done) | (simp; omega) | (have := HB.out.size; simp at *; omega)) _)) b)
                have K1 : Hid (GBox _ (w.heap.size) (⟨51, s, nx, .slice p n c, .slice (some ⟨b1, o1, none⟩) nw cs, .slice (some ⟨b2, o2, none⟩) nw cw⟩)) := Lib.hid (GBox.below (by repeat (first | with_reducible exact K1.out | with_reducible apply GBox.drewN | with_reducible apply GBox.drew | (with_reducible refine GBox.newAt ?_ ?_ <;> first | (simp; done) | rfl) | with_reducible apply GBox.alloc)) b)
                try clear k1a k1b k1c k1d k1e k1z
                have k1z := K1.out.lt
                obtain ⟨k1a, k1b, k1c, k1d, k1e⟩ := K1.out.cell
                clear b
                go_wp2_with fail
                go_ret
                exact ⟨ret_bool HT.out.symm, HB.out⟩
              · have HI2 : Hid (okT ⟨s, nx, l, sc, wt⟩ (k + 1)) := Lib.hid (fun j hj => by
                  rcases Nat.lt_or_ge j k with h | h
                  · exact HI.out j h
                  · obtain rfl : j = k := by omega
                    exact ⟨fun z hz => by have h1 : sc[j]? = some x := HX.out; rw [show sc[j]? = some z from hz] at h1; injection h1 with h1; subst h1; exact of_decide_eq_true HQ1.out, fun z hz => by have h1 : wt[j]? = some y := HY.out; rw [show wt[j]? = some z from hz] at h1; injection h1 with h1; subst h1; exact of_decide_eq_true HQ2.out⟩)
                go_wp2_with fail
                refine (HC1.out _).mono ?_
                rintro e w3 ⟨rfl, b⟩
                have d0 := (Below.cell b (p := ⟨b2, _, none⟩) hb2).trans d0
                have Sw3 := Lib.hid b.size
                have HB := Lib.hid (chain0 (w := w) (by repeat (first | with_reducible exact Below.refl _ _ | with_reducible exact HB.out | with_reducible apply Below.drew | with_reducible apply bdN | with_reducible refine Below.alloc ?_ (by first | exact Nat.le_refl _ | with_reducible exact HB.out.size | omega | (simp; done) | (simp; omega) | (have := HB.out.size; simp at *; omega)) _ | with_reducible refine Below.setCell ?_ (by first | exact Nat.le_refl _ | with_reducible exact HB.out.size | omega | (simp; done) | (simp; omega) | (have := HB.out.size; simp at *; omega)) _)) b)
                have K1 : Hid (GBox _ (w.heap.size) (⟨51, s, nx, .slice p n c, .slice (some ⟨b1, o1, none⟩) nw cs, .slice (some ⟨b2, o2, none⟩) nw cw⟩)) := Lib.hid (GBox.below (by repeat (first | with_reducible exact K1.out | with_reducible apply GBox.drewN | with_reducible apply GBox.drew | (with_reducible refine GBox.newAt ?_ ?_ <;> first | (simp; done) | rfl) | with_reducible apply GBox.alloc)) b)
                try clear k1a k1b k1c k1d k1e k1z
                have k1z := K1.out.lt
                obtain ⟨k1a, k1b, k1c, k1d, k1e⟩ := K1.out.cell
                clear b
                go_wp2_with fail
                refine (HC2.out _).mono ?_
                rintro e w4 ⟨rfl, b⟩
                have Sw4 := Lib.hid b.size
                have HB := Lib.hid (chain0 (w := w) (by repeat (first | with_reducible exact Below.refl _ _ | with_reducible exact HB.out | with_reducible apply Below.drew | with_reducible apply bdN | with_reducible refine Below.alloc ?_ (by first | exact Nat.le_refl _ | with_reducible exact HB.out.size | omega | (simp; done) | (simp; omega) | (have := HB.out.size; simp at *; omega)) _ | with_reducible refine Below.setCell ?_ (by first | exact Nat.le_refl _ | with_reducible exact HB.out.size | omega | (simp; done) | (simp; omega) | (have := HB.out.size; simp at *; omega)) _)) b)
                have K1 : Hid (GBox _ (w.heap.size) (⟨51, s, nx, .slice p n c, .slice (some ⟨b1, o1, none⟩) nw cs, .slice (some ⟨b2, o2, none⟩) nw cw⟩)) := Lib.hid (GBox.below (by repeat (first | with_reducible exact K1.out | with_reducible apply GBox.drewN | with_reducible apply GBox.drew | (with_reducible refine GBox.newAt ?_ ?_ <;> first | (simp; done) | rfl) | with_reducible apply GBox.alloc)) b)
                try clear k1a k1b k1c k1d k1e k1z
                have k1z := K1.out.lt
                obtain ⟨k1a, k1b, k1c, k1d, k1e⟩ := K1.out.cell
                clear b
                go_wp2_with fail
                go_roundw
                case rel => exact ⟨k + 1, by omega, by go_num, HI2, HB, K1⟩
                case measure => simp [intOf]; omega
          · obtain rfl : k = nw := by omega
            have HT := Lib.hid (HE.out (by show okT _ sc.length; rw [HS.out]; exact HI.out))
            go_wp2_with fail
            go_ret
            exact ⟨ret_bool HT.out.symm, HB.out⟩
      · have HT := Lib.hid (Gm.no (g := g) (fun h => by have h2 := h.eq; rw [HS.out, HW.out] at h2; exact hw h2))
        have hw2 : ((nw : Int) != (ns : Int)) = true := by simp; omega
        clear hw
        obtain ⟨s, nx, l, sc, wt⟩ := g
        simp only at HR HD ⊢
        go_enter Try.func63, Try.ntmps63
        go_wp2_with fail
        refine ((HD.out _ (RdG.a (by repeat (first | with_reducible exact HR.out | with_reducible apply RdG.drewN | with_reducible apply RdG.drew | with_reducible apply RdG.alloc))))).mono ?_
        rintro e w1 ⟨rfl, b⟩
        have Sw1 := Lib.hid b.size
        have HB := Lib.hid (chain0 (w := w) (by repeat (first | with_reducible exact Below.refl _ _ | with_reducible exact HB.out | with_reducible apply Below.drew | with_reducible apply bdN | with_reducible refine Below.alloc ?_ (by first | exact Nat.le_refl _ | with_reducible exact HB.out.size | omega | (simp; done) | (simp; omega) | (have := HB.out.size; simp at *; omega)) _ | with_reducible refine Below.setCell ?_ (by first | exact Nat.le_refl _ | with_reducible exact HB.out.size | omega | (simp; done) | (simp; omega) | (have := HB.out.size; simp at *; omega)) _)) b)
        have HR := Lib.hid (RdG.below (by repeat (first | with_reducible exact HR.out | with_reducible apply RdG.drewN | with_reducible apply RdG.drew | with_reducible apply RdG.alloc)) b)
        have K1 : Hid (GBox _ (w.heap.size) (⟨51, s, nx, .slice p n c, .slice ps ns cs, .slice pw nw cw⟩)) := Lib.hid (GBox.below (by repeat (first | with_reducible exact K1.out | with_reducible apply GBox.drewN | with_reducible apply GBox.drew | (with_reducible refine GBox.newAt ?_ ?_ <;> first | (simp; done) | rfl) | with_reducible apply GBox.alloc)) b)
        try clear k1a k1b k1c k1d k1e k1z
        have k1z := K1.out.lt
        obtain ⟨k1a, k1b, k1c, k1d, k1e⟩ := K1.out.cell
        clear b
        go_wp2_with fail
        refine ((HP.out _)).mono ?_
        rintro e w2 ⟨rfl, b⟩
        have Sw2 := Lib.hid b.size
        have HB := Lib.hid (chain0 (w := w) (by repeat (first | with_reducible exact Below.refl _ _ | with_reducible exact HB.out | with_reducible apply Below.drew | with_reducible apply bdN | with_reducible refine Below.alloc ?_ (by first | exact Nat.le_refl _ | with_reducible exact HB.out.size | omega | (simp; done) | (simp; omega) | (have := HB.out.size; simp at *; omega)) _ | with_reducible refine Below.setCell ?_ (by first | exact Nat.le_refl _ | with_reducible exact HB.out.size | omega | (simp; done) | (simp; omega) | (have := HB.out.size; simp at *; omega)) _)) b)
        have HR := Lib.hid (RdG.below (by repeat (first | with_reducible exact HR.out | with_reducible apply RdG.drewN | with_reducible apply RdG.drew | with_reducible apply RdG.alloc)) b)
        have K1 : Hid (GBox _ (w.heap.size) (⟨51, s, nx, .slice p n c, .slice ps ns cs, .slice pw nw cw⟩)) := Lib.hid (GBox.below (by repeat (first | with_reducible exact K1.out | with_reducible apply GBox.drewN | with_reducible apply GBox.drew | (with_reducible refine GBox.newAt ?_ ?_ <;> first | (simp; done) | rfl) | with_reducible apply GBox.alloc)) b)
        try clear k1a k1b k1c k1d k1e k1z
        have k1z := K1.out.lt
        obtain ⟨k1a, k1b, k1c, k1d, k1e⟩ := K1.out.cell
        clear b
        go_wp2_with fail
        go_ret
        exact ⟨ret_bool HT.out.symm, by repeat (first | with_reducible exact Below.refl _ _ | with_reducible exact HB.out | with_reducible apply Below.drew | with_reducible apply bdN | with_reducible refine Below.alloc ?_ (by first | exact Nat.le_refl _ | with_reducible exact HB.out.size | omega | (simp; done) | (simp; omega) | (have := HB.out.size; simp at *; omega)) _ | with_reducible refine Below.setCell ?_ (by first | exact Nat.le_refl _ | with_reducible exact HB.out.size | omega | (simp; done) | (simp; omega) | (have := HB.out.size; simp at *; omega)) _)⟩
end Go.Proofs.Ytjanphcfflahkaa.game

/- Lines ahead, players, places, points: the program's and the model's. -/
namespace Go.Proofs.Ytjanphcfflahkaa.game
open Go.RowKit
open cards deal
set_option linter.unusedVariables false

/-! Points. -/
theorem partP_set {g : Gm} {n k : Nat} {a b : Int} (h : (pts g).length = n) (hk : k < n) (ha : g.sc[k]? = some a) (hb : g.wr[k]? = some b) : (partI (pts g) n k).set k (a - b) = partI (pts g) n (k + 1) := partI_set h hk (pts_at ha hb)

set_option maxRecDepth 100000 in
set_option maxHeartbeats 2000000 in
theorem player_points (g : Gm) (p ps pw : Option Addr) (n c ns cs cw : Nat) (w : World) (hs : g.sc.length = ns) (hw : g.wr.length = ns) (hl : ns ≤ 1000) (hts : tly g.sc = true) (htw : tly g.wr = true) (hr : RdG w p ps pw g.l g.sc g.wr) :
    Calls Try.prog 69 #[gval g.s g.nx (.slice p n c) (.slice ps ns cs) (.slice pw ns cw)] w fun e w' => ∃ v, e = .returned v ∧ OwnI w' w.heap.size v (pts g) ∧ Below w.heap.size w w' := by
  have HS := Lib.hid hs
  have HW := Lib.hid hw
  have HR0 := Lib.hid hr
  have HTs := Lib.hid hts
  have HTw := Lib.hid htw
  have HPl := Lib.hid ((pts_len (g := g) (by rw [hs, hw])).trans hs)
  have HPs := Lib.hid (fun k a b => partP_set (g := g) (n := ns) (k := k) (a := a) (b := b) HPl.out)
  have hmk := madeI ns (by omega)
  obtain ⟨P, hP⟩ : ∃ P, pts g = P := ⟨_, rfl⟩
  rw [hP] at HPl HPs ⊢
  obtain ⟨s, nx, l, sc, wt⟩ := g
  simp only at HS HW HR0 HTs HTw HPs ⊢
  clear hs hw hr hts htw hP
  have K1 : Hid (GBox (w.alloc (Gv.obj ⟨51, s, nx, .slice p n c, .slice ps ns cs, .slice pw ns cw⟩)) w.heap.size ⟨51, s, nx, .slice p n c, .slice ps ns cs, .slice pw ns cw⟩) := Lib.hid (GBox.newAt rfl rfl)
  have HB : Hid (Below w.heap.size w (w.alloc (Gv.obj ⟨51, s, nx, .slice p n c, .slice ps ns cs, .slice pw ns cw⟩))) := Lib.hid ((Below.refl _ _).alloc (Nat.le_refl _) _)
  go_enter Try.func69, Try.ntmps69
  go_upto_region 1 with fail
  obtain ⟨W, hW⟩ : ∃ W, W = w.alloc (Gv.obj ⟨51, s, nx, .slice p n c, .slice ps ns cs, .slice pw ns cw⟩) := ⟨_, rfl⟩
  rw [← hW] at K1 HB
  rw [← hW]
  clear hW
  obtain ⟨k1a, k1b, k1c, k1d, k1e⟩ := K1.out.cell
  have k1z := K1.out.lt
  have HO := Lib.hid (own_madeI W ns (by omega))
  have K1a := Lib.hid (K1.out.alloc (.cells (madeCells #[Value.int .i64 0] ns) 3))
  have HB1 := Lib.hid (HB.out.alloc HB.out.size (.cells (madeCells #[Value.int .i64 0] ns) 3))
  have HWs := HB.out.size
  rw [← partI_zero P ns] at HO
  go_wp2_with fail
  go_loopw [4, 5, 13] (fun _ _ i wr => ∃ k : Nat, k ≤ ns ∧ i = .int .i64 k ∧ Hid (OwnI wr W.heap.size (.slice (some ⟨W.heap.size, 0, none⟩) ns ns) (partI P ns k)) ∧ Hid (Below w.heap.size w wr) ∧ Hid (GBox wr w.heap.size ⟨51, s, nx, .slice p n c, .slice ps ns cs, .slice pw ns cw⟩)) (fun _ _ i _ => ns - (intOf i).toNat)
  case atStart => exact ⟨0, Nat.zero_le _, rfl, HO, HB1, K1a⟩
  case round =>
    clear HB HB1 K1a k1a k1b k1c k1d k1e HO
    have K1z := Lib.hid k1z
    clear K1 hmk
    obtain ⟨k, hk, rfl, HO, HB, K1⟩ := hrel
    clear k1z
    obtain ⟨k1a, k1b, k1c, k1d, k1e⟩ := K1.out.cell
    have k1z := K1.out.lt
    have m0 : (0 : Int) ≤ (k : Int) := by omega
    by_cases hlt : k < ns
    · have m1 : (k : Int) < (ns : Int) := by omega
      have HR := Lib.hid (RdG.below HR0.out HB.out)
      obtain ⟨b1, o1, x, rfl, hb1, hx, c0⟩ := HR.out.b.int (k := k) (by rw [HS.out]; exact hlt)
      obtain ⟨b2, o2, y, rfl, hb2, hy, d0⟩ := HR.out.c.int (k := k) (by rw [HW.out]; exact hlt)
      obtain ⟨hx0, hx1⟩ := tly_at HTs.out hx
      obtain ⟨hy0, hy1⟩ := tly_at HTw.out hy
      have HP := Lib.hid (HPs.out k x y hlt hx hy)
      obtain ⟨z, hz, f0, hf, hB, hg⟩ := HO.out.slot (partI_len HPl.out hk) k hlt
      have HSt := Lib.hid (HO.out.store (partI_len HPl.out hk) k (x - y))
      rw [HP.out] at HSt
      have HB2 := Lib.hid (HB.out.setCell (p := ⟨W.heap.size, k, none⟩) HWs (.int .i64 (x - y)))
      have K2 := Lib.hid (K1.out.farW (show w.heap.size ≠ W.heap.size from Nat.ne_of_lt K1z.out) k (.int .i64 (x - y)))
      clear hx hy hz HO
      go_wp2_with fail
      go_roundw
      case rel => exact ⟨k + 1, by omega, by go_num, HSt, HB2, K2⟩
      case measure => simp [intOf]; omega
    · obtain rfl : k = ns := by omega
      rw [partI_all HPl.out] at HO
      go_wp2_with fail
      go_ret
      exact ⟨_, rfl, OwnI.base HO.out HWs, HB.out⟩
end Go.Proofs.Ytjanphcfflahkaa.game

/- IsGame, LinesAhead, PointsOf: the exported functions, the program's and the model's. -/
namespace Go.Proofs.Ytjanphcfflahkaa.game
open Go.RowKit
open cards deal
set_option linter.unusedVariables false

/-! Lines ahead. -/
noncomputable def laR (g : Gm) : Int × Bool := if g.ok = true then (ahead g.d, true) else (0, false)
end Go.Proofs.Ytjanphcfflahkaa.game

/- Operations by themselves, for regions that draw their order: loads of numbers and slices, sums, appends; the model's points. -/
namespace Go.Proofs.Ytjanphcfflahkaa.game
open Go.RowKit
open cards deal reg
set_option linter.unusedVariables false

theorem load_int {w : World} {p : Addr} {x : Int} (h : w.cell? p = some (.int .i64 x)) : (loadVar 3 p).run Try.prog w = .ok (.int .i64 x) w := by simp [loadVar, go_sem, h]
theorem load_slI {w : World} {p : Addr} {q : Option Addr} {n c : Nat} (h : w.cell? p = some (.slice q n c)) : (loadVar 43 p).run Try.prog w = .ok (.slice q n c) w := by simp [loadVar, go_sem, h]
theorem load_slC {w : World} {p : Addr} {q : Option Addr} {n c : Nat} (h : w.cell? p = some (.slice q n c)) : (loadVar 29 p).run Try.prog w = .ok (.slice q n c) w := by simp [loadVar, go_sem, h]
theorem exec_indexI {k n b ad cp : Nat} (hk : k < n) {a : Act} {o : Oper} {p q : Operand} (ho : o.op = .indexAddr 43 p q) (hp : a.eval p = .slice (some ⟨b, ad, none⟩) n cp) (hq : a.eval q = .int .i64 k) (w : World) :
    (execOp a.eval o).run Try.prog w = .ok (.value (.pointer (some ⟨b, ad + k, none⟩))) w := by
  have h0 : (0 : Int) ≤ (k : Int) := by omega
  have h1 : (k : Int) < (n : Int) := by omega
  unfold execOp
  rw [ho]
  simp only [hp, hq]
  go_simp
theorem exec_mul1 {x : Int} (hx : -1000000 ≤ x ∧ x ≤ 1000000) {a : Act} {o : Oper} {p : Operand} {s : TypeId} (ho : o.op = .binOp .mul 3 (.const (.int .i64 1)) p s) (hp : a.eval p = .int .i64 x) (w : World) :
    (execOp a.eval o).run Try.prog w = .ok (.value (.int .i64 x)) w := by
  obtain ⟨h0, h1⟩ := hx
  unfold execOp
  rw [ho]
  simp only [hp]
  go_simp
  try rw [Int.one_mul]
  try exact IntWalk.i64_in _ (by omega)
theorem exec_subI {x y : Int} (hx : -1000000 ≤ x ∧ x ≤ 1000000) (hy : -1000000 ≤ y ∧ y ≤ 1000000) {a : Act} {o : Oper} {p q : Operand} {s : TypeId} (ho : o.op = .binOp .sub 3 p q s) (hp : a.eval p = .int .i64 x) (hq : a.eval q = .int .i64 y) (w : World) :
    (execOp a.eval o).run Try.prog w = .ok (.value (.int .i64 (x - y))) w := by
  obtain ⟨h0, h1⟩ := hx
  obtain ⟨h2, h3⟩ := hy
  unfold execOp
  rw [ho]
  simp only [hp, hq]
  go_simp
  try exact IntWalk.i64_in _ (by omega)
theorem exec_addI {x y : Int} (hx : -1000000 ≤ x ∧ x ≤ 1000000) (hy : -1000000 ≤ y ∧ y ≤ 1000000) {a : Act} {o : Oper} {p q : Operand} {s : TypeId} (ho : o.op = .binOp .add 3 p q s) (hp : a.eval p = .int .i64 x) (hq : a.eval q = .int .i64 y) (w : World) :
    (execOp a.eval o).run Try.prog w = .ok (.value (.int .i64 (x + y))) w := by
  obtain ⟨h0, h1⟩ := hx
  obtain ⟨h2, h3⟩ := hy
  unfold execOp
  rw [ho]
  simp only [hp, hq]
  go_simp
  try exact IntWalk.i64_in _ (by omega)
/-- One number is appended to a row of the call's own. -/
theorem exec_appendI {w : World} {B : Nat} {v : Value} {l : List Int} {x : Int} {a : Act} {o : Oper} (s y : Operand) (ho : o.op = .call { callee := .builtin .append, args := #[s, y], argTypes := #[43, 43] }) (hs : a.eval s = v) {g : Nat} (hg : w.heap.size = g) (hy : a.eval y = .slice (some ⟨g, 0, none⟩) 1 1)
    (hO : OwnI w B v l) (hl : l.length ≤ 1000000) (hB : B ≤ w.heap.size) :
    ∃ v' w', (execOp a.eval o).run Try.prog (w.alloc (.cells #[.int .i64 x] 3)) = .ok (.value v') w' ∧ OwnI w' B v' (l ++ [x]) ∧ w.grownBy w' v.ownBlock ∧ (v'.ownBlock = v.ownBlock ∨ v'.ownBlock = some (w.heap.size + 1)) := by
  subst hg
  obtain ⟨i, hi, hz, hsz, hb⟩ := info_parts int_info
  have he : (w.alloc (.cells #[.int .i64 x] 3)).heap.size = w.heap.size + 1 := by simp
  obtain ⟨v', w', hr, h2, h3, h4, h5⟩ := run_append_own_at (P := Try.prog) (w.alloc (.cells #[.int .i64 x] 3)) B 43 o.type 3 i (.int .i64 0) 1 8 Try.underlying43 hi hz hsz hb rfl (by decide) v l.length (ints l) (hO.alloc _) ⟨w.heap.size, 0, none⟩ 1 1 [.int .i64 x] rfl (cell_one_new _ _ _) (fun u hu => by simp at hu; subst hu; rfl) (by simp only [maxLen]; omega) (by omega) (by omega)
  refine ⟨v', w', ?_, ?_, (World.grownBy_alloc w _ _).trans h3, by rw [he] at h5; exact h5⟩
  · unfold execOp
    simp only [ho, resolve, invoke, builtin, Sem.run_bind, Sem.run_pure, Result.andThen_ok, List.map_toArray, List.map_cons, List.map_nil, hs, hy, hr]
  · unfold OwnI
    rw [List.length_append]
    have e : ints (l ++ [x]) = ints l ++ [.int .i64 x] := by simp [ints]
    rw [e]; exact h2

theorem runs_appendI {ops : Array Oper} {S : World → Prop} {K : Act → World → Prop} {j : Nat} {r : List Nat} {a : Act} {w : World} {o : Oper} (s y : Operand) {B : Nat} {v : Value} {l : List Int} {x : Int} {g : Nat} (hj : ops[j]? = some o) (hgd : o.guard = none) (ho : o.op = .call { callee := .builtin .append, args := #[s, y], argTypes := #[43, 43] }) (hs : a.eval s = v) (hy : a.eval y = .slice (some ⟨g, 0, none⟩) 1 1) (hg : w.heap.size = g)
    (hO : OwnI w B v l) (hl : l.length ≤ 1000000) (hB : B ≤ w.heap.size)
    (h : ∀ v' w', OwnI w' B v' (l ++ [x]) → w.grownBy w' v.ownBlock → (v'.ownBlock = v.ownBlock ∨ v'.ownBlock = some (w.heap.size + 1)) → S w' ∧ runsS Try.prog ops S K r (a.put o.dst v') w') : runsS Try.prog ops S K (j :: r) a (w.alloc (.cells #[.int .i64 x] 3)) := by
  obtain ⟨v', w', e, h1, h2, h3⟩ := exec_appendI (x := x) s y ho hs hg hy hO hl hB
  obtain ⟨h4, h5⟩ := h v' w' h1 h2 h3
  exact ⟨o, w', v', hj, hgd, .inl e, h4, h5⟩

set_option maxRecDepth 100000 in
set_option maxHeartbeats 2000000 in
theorem l8_points (g : Gm) (p ps pw : Option Addr) (n c ns cs cw : Nat) (w : World) (hs : g.sc.length = ns) (hw : g.wr.length = ns) (hl : ns ≤ 1000) (hts : tly g.sc = true) (htw : tly g.wr = true) (hr : RdG w p ps pw g.l g.sc g.wr) :
    Calls Try.prog 64 #[gval g.s g.nx (.slice p n c) (.slice ps ns cs) (.slice pw ns cw)] w fun e w' => ∃ v, e = .returned v ∧ OwnI w' w.heap.size v (pts g) ∧ Below w.heap.size w w' := by
  have HS := Lib.hid hs
  have HW := Lib.hid hw
  have HR0 := Lib.hid hr
  have HTs := Lib.hid hts
  have HTw := Lib.hid htw
  have HPl := Lib.hid ((pts_len (g := g) (by rw [hs, hw])).trans hs)
  have HPs := Lib.hid (fun k a b ha hb => take_snoc (pts_at (g := g) (k := k) (a := a) (b := b) ha hb))
  obtain ⟨P, hP⟩ : ∃ P, pts g = P := ⟨_, rfl⟩
  rw [hP] at HPl HPs ⊢
  obtain ⟨s, nx, l, sc, wt⟩ := g
  simp only at HS HW HR0 HTs HTw HPs ⊢
  clear hs hw hr hts htw hP
  have K1 : Hid (GBox (w.alloc (Gv.obj ⟨51, s, nx, .slice p n c, .slice ps ns cs, .slice pw ns cw⟩)) w.heap.size ⟨51, s, nx, .slice p n c, .slice ps ns cs, .slice pw ns cw⟩) := Lib.hid (GBox.newAt rfl rfl)
  have HB : Hid (Below w.heap.size w (w.alloc (Gv.obj ⟨51, s, nx, .slice p n c, .slice ps ns cs, .slice pw ns cw⟩))) := Lib.hid ((Below.refl _ _).alloc (Nat.le_refl _) _)
  go_enter Try.func64, Try.ntmps64
  go_upto_region 1 with fail
  obtain ⟨W, hW⟩ : ∃ W, W = w.alloc (Gv.obj ⟨51, s, nx, .slice p n c, .slice ps ns cs, .slice pw ns cw⟩) := ⟨_, rfl⟩
  rw [← hW] at K1 HB
  rw [← hW]
  clear hW
  have HO : Hid (OwnI (W.alloc (.cells #[] 3)) W.heap.size (.slice (some ⟨W.heap.size, 0, none⟩) 0 0) (P.take 0)) := Lib.hid (OwnI.empty W W.heap.size (Nat.le_refl _))
  have K1a := Lib.hid (K1.out.alloc (.cells #[] 3))
  have HB1 := Lib.hid (HB.out.alloc HB.out.size (.cells #[] 3))
  have HWs := HB.out.size
  have K1z := Lib.hid K1.out.lt
  go_wp2_with fail
  go_loopw [3, 4] (fun u i wr => ∃ (k : Nat) (pu : Option Addr) (cu : Nat), k ≤ ns ∧ u = .slice pu k cu ∧ i = .int .i64 k ∧ Hid (OwnI wr W.heap.size (.slice pu k cu) (P.take k)) ∧ Hid (Below w.heap.size w wr) ∧ Hid (GBox wr w.heap.size ⟨51, s, nx, .slice p n c, .slice ps ns cs, .slice pw ns cw⟩) ∧ W.heap.size ≤ wr.heap.size) (fun _ i _ => ns - (intOf i).toNat)
  case atStart => exact ⟨0, _, _, Nat.zero_le _, rfl, rfl, HO, HB1, K1a, by simp⟩
  case round =>
    clear HB HB1 K1a HO K1
    obtain ⟨k, pu, cu, hk, rfl, rfl, HO, HB, K1, hwz⟩ := hrel
    obtain ⟨k1a, k1b, k1c, k1d, k1e⟩ := K1.out.cell
    have k1z := K1.out.lt
    have m0 : (0 : Int) ≤ (k : Int) := by omega
    by_cases hlt : k < ns
    · have m1 : (k : Int) < (ns : Int) := by omega
      have HR := Lib.hid (RdG.below HR0.out HB.out)
      obtain ⟨b1, o1, x, rfl, hb1, hx, c0⟩ := HR0.out.b.int (k := k) (by rw [HS.out]; exact hlt)
      obtain ⟨b2, o2, y, rfl, hb2, hy, d0⟩ := HR0.out.c.int (k := k) (by rw [HW.out]; exact hlt)
      have c0 := (HB.out.cell (p := ⟨b1, _, none⟩) hb1).trans c0
      have d0 := (HB.out.cell (p := ⟨b2, _, none⟩) hb2).trans d0
      obtain ⟨hx0, hx1⟩ := tly_at HTs.out hx
      obtain ⟨hy0, hy1⟩ := tly_at HTw.out hy
      have HP := Lib.hid (HPs.out k x y hx hy)
      have HTk := Lib.hid (show (P.take k).length = k by rw [List.length_take, HPl.out]; omega)
      clear hx hy
      have k1z' := K1z.out
      have HSf : ∀ w', Below W.heap.size wr w' → w'.cell? ⟨w.heap.size, 3, none⟩ = some (.slice (some ⟨b1, o1, none⟩) ns cs) ∧ w'.cell? ⟨w.heap.size, 4, none⟩ = some (.slice (some ⟨b2, o2, none⟩) ns cw) ∧ w'.cell? ⟨b1, o1 + k, none⟩ = some (.int .i64 x) ∧ w'.cell? ⟨b2, o2 + k, none⟩ = some (.int .i64 y) := fun w' h => ⟨(Below.cell h (p := ⟨w.heap.size, 3, none⟩) k1z').trans k1d, (Below.cell h (p := ⟨w.heap.size, 4, none⟩) k1z').trans k1e, (Below.cell h (p := ⟨b1, _, none⟩) (show b1 < W.heap.size by omega)).trans c0, (Below.cell h (p := ⟨b2, _, none⟩) (show b2 < W.heap.size by omega)).trans d0⟩
      go_upto_region 5 with fail
      refine region_jobsB [0, 1, 2, 3, 4, 5, 6, 7, 8, 9, 10, 11, 12] [] [13, 14, 15] (fun _ => 0) (fun _ _ _ _ _ => True) (by kernel_rfl) (by kernel_rfl) rfl (by kernel_rfl) (by decide) (by decide) (fun _ _ _ _ _ _ _ _ => trivial) (fun w' => w'.cell? ⟨w.heap.size, 3, none⟩ = some (.slice (some ⟨b1, o1, none⟩) ns cs) ∧ w'.cell? ⟨w.heap.size, 4, none⟩ = some (.slice (some ⟨b2, o2, none⟩) ns cw) ∧ w'.cell? ⟨b1, o1 + k, none⟩ = some (.int .i64 x) ∧ w'.cell? ⟨b2, o2 + k, none⟩ = some (.int .i64 y)) (fun w' h => HSf w' (h.mono hwz)) ?_
      refine j_pure 13 (v := .slice pu k cu) rfl rfl rfl (fun w => by kernel_rfl) ?_
      refine j_pure 14 (v := .pointer (some ⟨w.heap.size, 3, none⟩)) rfl rfl rfl (fun w => by kernel_rfl) ?_
      refine j_cell 15 (v := .slice (some ⟨b1, o1, none⟩) ns cs) rfl rfl rfl rfl (by kernel_rfl) (fun w' h => load_slI h.1) ?_
      refine j_pure 16 (v := .int .i64 k) rfl rfl rfl (fun w => by kernel_rfl) ?_
      refine j_pure 17 (v := .pointer (some ⟨b1, o1 + k, none⟩)) rfl rfl rfl (exec_indexI (n := ns) (cp := cs) hlt rfl (by kernel_rfl) (by kernel_rfl)) ?_
      refine j_cell 18 (v := .int .i64 x) rfl rfl rfl rfl (by kernel_rfl) (fun w' h => load_int h.2.2.1) ?_
      refine j_pure 19 (v := .pointer (some ⟨w.heap.size, 4, none⟩)) rfl rfl rfl (fun w => by kernel_rfl) ?_
      refine j_cell 20 (v := .slice (some ⟨b2, o2, none⟩) ns cw) rfl rfl rfl rfl (by kernel_rfl) (fun w' h => load_slI h.2.1) ?_
      refine j_pure 21 (v := .int .i64 k) rfl rfl rfl (fun w => by kernel_rfl) ?_
      refine j_pure 22 (v := .pointer (some ⟨b2, o2 + k, none⟩)) rfl rfl rfl (exec_indexI (n := ns) (cp := cw) hlt rfl (by kernel_rfl) (by kernel_rfl)) ?_
      refine j_cell 23 (v := .int .i64 y) rfl rfl rfl rfl (by kernel_rfl) (fun w' h => load_int h.2.2.2) ?_
      refine j_pure 24 (v := .int .i64 y) rfl rfl rfl (exec_mul1 (by omega) rfl (by kernel_rfl)) ?_
      refine j_pure 25 (v := .int .i64 (x - y)) rfl rfl rfl (exec_subI (x := x) (y := y) (by omega) (by omega) rfl (by kernel_rfl) (by kernel_rfl)) ?_
      refine ⟨fun j hj => by simp at hj, fun w' M hI _ _ => ?_⟩
      have HOw := HO.out.below hI
      have hwz2 := Nat.le_trans hwz (Below.size hI)
      obtain ⟨g', hg'⟩ : ∃ g', w'.heap.size = g' := ⟨_, rfl⟩
      simp only [putM]
      refine ⟨_, w'.alloc (.cells #[.int .i64 (x - y)] 3), .slice (some ⟨w'.heap.size, 0, none⟩) 1 1, rfl, rfl, .inl (by kernel_rfl), HSf _ ((Below.mono hI hwz).alloc hwz2 _), ?_⟩
      rw [hg']
      refine runs_appendI (.tmp 13) (.tmp 26) (B := W.heap.size) (v := .slice pu k cu) (l := P.take k) rfl rfl rfl (by kernel_rfl) (by kernel_rfl) hg' HOw (by rw [HTk.out]; omega) hwz2 ?_
      intro v2 w2 h2 h3 h4
      have hb2 : Below W.heap.size wr w2 := (Below.mono hI hwz).grown h3 hwz2 (fun q e => (HOw.span q e).1)
      refine ⟨HSf _ hb2, ?_⟩
      refine ⟨_, w2, v2, rfl, rfl, .inl (by kernel_rfl), HSf _ hb2, ?_⟩
      rw [← HP.out] at h2
      have HO2 := Lib.hid h2
      have HB2 := Lib.hid (HB.out.trans (hb2.mono HWs))
      have K2 : Hid (GBox w2 w.heap.size ⟨51, s, nx, .slice p n c, .slice (some ⟨b1, o1, none⟩) ns cs, .slice (some ⟨b2, o2, none⟩) ns cw⟩) := Lib.hid (K1.out.under k1z' hb2)
      have HZ2 := Lib.hid (Nat.le_trans hwz hb2.size)
      obtain ⟨p2, c2, hv2, _⟩ := h2.form
      have hl2 : (P.take (k + 1)).length = k + 1 := by rw [List.length_take, HPl.out]; omega
      rw [hl2] at hv2
      subst hv2
      simp only [runsS, Act.put, List.setIfInBounds_toArray, List.set_cons_zero, List.set_cons_succ]
      clear h2 h3 h4 hb2 hg' HOw hI HSf HO K1 HB k1a k1b k1c k1d k1e k1z c0 d0
      go_wp2_with fail
      go_roundw
      case rel => exact ⟨k + 1, p2, c2, by omega, rfl, by go_num, HO2, HB2, K2, HZ2.out⟩
      case measure => simp [intOf]; omega
    · obtain rfl : k = ns := by omega
      have HTk := Lib.hid (show P.take k = P by rw [← HPl.out, List.take_length])
      rw [HTk.out] at HO
      go_wp2_with fail
      go_ret
      exact ⟨_, rfl, OwnI.base HO.out HWs, HB.out⟩
end Go.Proofs.Ytjanphcfflahkaa.game

/- The most points, leaders: the program's and the model's. -/
namespace Go.Proofs.Ytjanphcfflahkaa.game
open Go.RowKit
open cards deal
set_option linter.unusedVariables false

theorem best_step {l : List Int} {k : Nat} {x : Int} (hx : l[k]? = some x) : best l (-1) (k + 1) = max (best l (-1) k) x := by
  simp only [best]
  rw [hx]
  simp only
  rw [if_neg (by omega)]
  split <;> omega
theorem best_skip {l : List Int} {k : Nat} {but : Int} (h : (k : Int) = but) : best l but (k + 1) = best l but k := by
  simp only [best]
  split
  · rw [if_pos h]
  · rfl
theorem best_take {l : List Int} {k : Nat} {x but : Int} (hx : l[k]? = some x) (h : ¬ (k : Int) = but) : best l but (k + 1) = if x < best l but k then best l but k else x := by
  simp only [best]
  rw [hx]
  simp only
  rw [if_neg h]
/-! Points of all players. -/
noncomputable def ptR (g : Gm) : List Int × Bool := if g.ok = true then (pts g, true) else ([], false)
theorem ptR_len (g : Gm) : (ptR g).1.length ≤ 1000 := by
  unfold ptR; split
  · rename_i h
    have := Gm.ok_iff.1 h
    show (pts g).length ≤ _
    rw [pts_len this.eq]; have := this.p4; omega
  · simp

end Go.Proofs.Ytjanphcfflahkaa.game

/- Leaders: the program's and the model's. -/
namespace Go.Proofs.Ytjanphcfflahkaa.game
open Go.RowKit
open cards deal
set_option linter.unusedVariables false

def ldr (l : List Int) : List Int := lead l (bst l (-1)) l.length
noncomputable def ldR (g : Gm) : List Int × Bool := if g.ok = true then (ldr (pts g), true) else ([], false)
theorem ldR_len (g : Gm) : (ldR g).1.length ≤ 1000 := by
  unfold ldR; split
  · rename_i h
    have h1 := Gm.ok_iff.1 h
    have h2 := lead_len (pts g) (bst (pts g) (-1)) (pts g).length
    rw [pts_len h1.eq] at h2
    show (lead (pts g) (bst (pts g) (-1)) (pts g).length).length ≤ _
    rw [pts_len h1.eq]
    have := h1.p4; omega
  · simp
theorem lead_yes {l : List Int} {m : Int} {k : Nat} {x : Int} (h : l[k]? = some x) (e : x = m) : lead l m (k + 1) = lead l m k ++ [(k : Int)] := by simp only [lead]; rw [if_pos (by rw [h, e])]
theorem lead_no {l : List Int} {m : Int} {k : Nat} {x : Int} (h : l[k]? = some x) (e : ¬ x = m) : lead l m (k + 1) = lead l m k := by simp only [lead]; rw [if_neg (by rw [h]; intro e2; injection e2 with e2; exact e e2), List.append_nil]

end Go.Proofs.Ytjanphcfflahkaa.game

/- Ranks: players in order, the one order of them (mathematics). -/
namespace Go.Proofs.Ytjanphcfflahkaa.game
open Go.RowKit
open cards deal
set_option linter.unusedVariables false

section
variable (pv wv : Nat → Int)
/-- a is ranked before b. -/
def bef (a b : Nat) : Prop := pv b < pv a ∨ (pv a = pv b ∧ (wv a < wv b ∨ (wv a = wv b ∧ a < b)))
instance : ∀ a b, Decidable (bef pv wv a b) := fun a b => by unfold bef; infer_instance
def leB (a b : Nat) : Bool := decide (¬ bef pv wv b a)
def rk (n : Nat) : List Nat := (List.range n).mergeSort (leB pv wv)
end
variable {pv wv : Nat → Int}
theorem bef_trans {a b c : Nat} (h : bef pv wv a b) (k : bef pv wv b c) : bef pv wv a c := by unfold bef at *; omega
theorem bef_asymm {a b : Nat} (h : bef pv wv a b) : ¬ bef pv wv b a := by unfold bef at *; omega
theorem bef_total {a b : Nat} (h : a ≠ b) (k : ¬ bef pv wv b a) : bef pv wv a b := by unfold bef at *; omega
theorem bef_uniq : ∀ {l m : List Nat}, l.Pairwise (bef pv wv) → m.Pairwise (bef pv wv) → l.Perm m → l = m
  | [], b, _, _, h => (List.nil_perm.1 h).symm
  | x :: a, [], _, _, h => by have := h.length_eq; simp at this
  | x :: a, y :: b, ha, hb, h => by
    obtain ⟨ha1, ha2⟩ := List.pairwise_cons.1 ha
    obtain ⟨hb1, hb2⟩ := List.pairwise_cons.1 hb
    have e : x = y := by
      rcases List.mem_cons.1 (h.mem_iff.2 (.head _) : y ∈ x :: a) with e | e
      · exact e.symm
      · rcases List.mem_cons.1 (h.mem_iff.1 (.head _) : x ∈ y :: b) with e2 | e2
        · exact e2
        · exact absurd (ha1 y e) (bef_asymm (hb1 x e2))
    subst e
    rw [bef_uniq ha2 hb2 (List.Perm.cons_inv h)]
theorem sorted_bef {l : List Nat} {n : Nat} (hp : l.Perm (List.range n)) (h : l.Pairwise (fun a b => ¬ bef pv wv b a)) : l.Pairwise (bef pv wv) := by
  have hnd : l.Pairwise (· ≠ ·) := hp.nodup_iff.2 List.nodup_range
  rw [List.pairwise_iff_getElem] at *
  exact fun i j hi hj hij => bef_total (hnd i j hi hj hij) (h i j hi hj hij)
theorem rk_perm (n : Nat) : (rk pv wv n).Perm (List.range n) := List.mergeSort_perm _ _
theorem rk_sorted (n : Nat) : (rk pv wv n).Pairwise (bef pv wv) := by
  refine sorted_bef (rk_perm n) ?_
  have := List.pairwise_mergeSort (le := leB pv wv) (by intro a b c; simp only [leB, decide_eq_true_eq]; unfold bef; omega) (by intro a b; simp only [leB, Bool.or_eq_true, decide_eq_true_eq]; unfold bef; omega) (List.range n)
  exact this.imp (by intro a b h; simpa [leB] using h)
theorem rk_is {l : List Nat} {n : Nat} (hp : l.Perm (List.range n)) (h : l.Pairwise (bef pv wv)) : l = rk pv wv n := bef_uniq h (rk_sorted n) (hp.trans (rk_perm n).symm)
theorem rk_len (n : Nat) : (rk pv wv n).length = n := by rw [(rk_perm n).length_eq, List.length_range]
/-- One more player is put at place k. -/
def insK (l : List Nat) (i k : Nat) : List Nat := l.take k ++ i :: l.drop k
theorem insK_perm {l : List Nat} {i : Nat} (k : Nat) (hp : l.Perm (List.range i)) : (insK l i k).Perm (List.range (i + 1)) := by
  unfold insK
  refine List.perm_middle.trans ?_
  rw [List.take_append_drop, List.range_succ]
  exact (List.Perm.cons i hp).trans (List.perm_append_comm (l₁ := [i]) (l₂ := List.range i))
theorem insK_sorted {l : List Nat} {i k : Nat} (hl : l.Pairwise (bef pv wv)) (h1 : ∀ j x, k ≤ j → l[j]? = some x → bef pv wv i x) (h2 : ∀ x, 0 < k → l[k - 1]? = some x → bef pv wv x i) (hk : k ≤ l.length) : (insK l i k).Pairwise (bef pv wv) := by
  have hg := List.pairwise_iff_getElem.1 hl
  have ht : ∀ a, a ∈ l.take k → bef pv wv a i := fun a ha => by
    obtain ⟨j, hj, rfl⟩ := List.mem_iff_getElem.1 ha
    rw [List.length_take] at hj
    have hk1 : k - 1 < l.length := by omega
    have hb := h2 l[k - 1] (by omega) (List.getElem?_eq_getElem hk1)
    rw [List.getElem_take]
    by_cases e : j = k - 1
    · subst e; exact hb
    · exact bef_trans (hg j (k - 1) (by omega) hk1 (by omega)) hb
  have hd : ∀ a, a ∈ l.drop k → bef pv wv i a := fun a ha => by
    obtain ⟨j, hj, rfl⟩ := List.mem_iff_getElem.1 ha
    rw [List.length_drop] at hj
    rw [List.getElem_drop]
    exact h1 (k + j) _ (by omega) (List.getElem?_eq_getElem (by omega))
  unfold insK
  have hs : (l.take k ++ l.drop k).Pairwise (bef pv wv) := by rw [List.take_append_drop]; exact hl
  rw [List.pairwise_append] at hs ⊢
  refine ⟨hs.1, List.pairwise_cons.2 ⟨hd, hs.2.1⟩, fun a ha b hb => ?_⟩
  rcases List.mem_cons.1 hb with rfl | hb
  · exact ht a ha
  · exact hs.2.2 a ha b hb
/-- What a game ranks by. -/
def pvG (g : Gm) (a : Nat) : Int := (pts g).getD a 0
def wvG (g : Gm) (a : Nat) : Int := g.wr.getD a 0
def casts (l : List Nat) : List Int := l.map Int.ofNat
noncomputable def rgR (g : Gm) : List Int × Bool := if g.ok = true then (casts (rk (pvG g) (wvG g) g.sc.length), true) else ([], false)
theorem casts_len (l : List Nat) : (casts l).length = l.length := by simp [casts]
theorem rgR_len (g : Gm) : (rgR g).1.length ≤ 4 := by
  unfold rgR
  split
  · rename_i h
    have := (Gm.ok_iff.1 h).p4
    simp only [casts_len, rk_len]; exact this
  · simp
end Go.Proofs.Ytjanphcfflahkaa.game

/- The builtin copy, cards and numbers; a Game copied: the program's. -/
namespace Go.Proofs.Ytjanphcfflahkaa.game
open Go.RowKit
open cards deal
set_option linter.unusedVariables false

section
variable {P : Program}
theorem run_copyK (w : World) (dT sT ty elem : TypeId) (K g n : Nat) (a : Addr) (sCap : Nat) (cur : Array Value) (t : TypeId) (cs : List Value)
    (hu : P.underlying dT = some (.slice elem)) (hs : (P.info? elem).map (·.size) = some K)
    (hg : w.heap[g]? = some (.cells cur t (0, 0))) (hn : cs.length = n * K)
    (hsrc : ∀ j v, cs[j]? = some v → w.cell? (a.add j) = some v) (hfit : cur.size = n * K) (h1 : ∀ v ∈ cs, v.oneCell' = true) :
    (Builtin.copy_ #[dT, sT] ty #[.slice (some ⟨g, 0, none⟩) n n, .slice (some a) n sCap]).run P w = .ok (goInt n) (w.setRow g cs.toArray) := by
  have hl := run_loadCells_list (P := P) w a cs hsrc
  have hst := run_storeCells_at P g 0 t cs 0 cur w hg (by omega) h1
  have e : (cur.toList.take (0 + 0) ++ cs ++ cur.toList.drop (0 + 0 + cs.length)).toArray = cs.toArray := by
    have : cur.toList.drop (0 + 0 + cs.length) = [] := List.drop_eq_nil_of_le (by simp; omega)
    rw [this]; simp
  rw [e] at hst
  cases hq : P.info? elem with
  | none => simp [hq] at hs
  | some i =>
    have hi : i.size = K := by simpa [hq] using hs
    simp [Builtin.copy_, run_underlying hu, Builtin.lenOf, Builtin.firstCells, sizeOf, typeInfo, hq, hi, ← hn, hl, hst]
theorem run_copy0 (w : World) (dT sT ty elem : TypeId) (K : Nat) (d a : Option Addr) (sCap : Nat)
    (hu : P.underlying dT = some (.slice elem)) (hs : (P.info? elem).map (·.size) = some K) :
    (Builtin.copy_ #[dT, sT] ty #[.slice d 0 0, .slice a 0 sCap]).run P w = .ok (goInt 0) w := by
  cases hq : P.info? elem with
  | none => simp [hq] at hs
  | some i =>
    have hi : i.size = K := by simpa [hq] using hs
    have hl := fun a : Addr => run_loadCells_list (P := P) w a [] (by simp)
    simp only [List.length_nil] at hl
    cases d <;> cases a <;> simp [Builtin.copy_, run_underlying hu, Builtin.lenOf, Builtin.firstCells, sizeOf, typeInfo, hq, hi, hl, storeCells]
end
theorem addP (b o j : Nat) : (⟨b, o, none⟩ : Addr).add j = ⟨b, o + j, none⟩ := by unfold Addr.add; split <;> simp_all
theorem below_setRow' {w : World} {g : Nat} {B : Nat} (hB : B ≤ g) (cs : Array Value) : Below B w (w.setRow g cs) := ⟨rfl, rfl, rfl, by simp [World.setRow], fun k hk => setRow_other w g k cs (by omega)⟩
/-- Cards are copied into a slice just made. -/
theorem copy_cards {ops : Array Oper} {rest : List Oper} {o : Oper} {a : Act} {Q : Exit → Act → World → Prop} (hgd : o.guard = none) (d s : Operand) (ho : o.op = .call { callee := .builtin .copy, args := #[d, s], argTypes := #[29, 29] })
    {W : World} {g n c : Nat} {p : Option Addr} {l : List Cd} (hg : W.heap.size = g) (hd : a.eval d = .slice (some ⟨g, 0, none⟩) n n) (hs : a.eval s = .slice p n c) (hn : l.length = n) (hr : Rd W p (flat l)) (hnm : n ≤ 1000000000)
    (h : ∀ w', Own w' g (.slice (some ⟨g, 0, none⟩) n n) l → Below g W w' → g < w'.heap.size → wpList Try.prog ops Q rest (a.put o.dst (goInt n)) w') :
    wpList Try.prog ops Q (o :: rest) a (W.alloc (.cells (madeCells (Value.agg #[.int .i64 0, .int .i64 0, .int .i64 0, .int .i64 0]).cells (n * 4)) 22)) := by
  subst hg
  have hi : ((Try.prog).info? 22).map (·.size) = some 4 := by kernel_rfl
  have hb0 : Below W.heap.size W (W.alloc (.cells (madeCells (Value.agg #[.int .i64 0, .int .i64 0, .int .i64 0, .int .i64 0]).cells (n * 4)) 22)) := (Below.refl _ _).alloc (Nat.le_refl _) _
  refine wpList_plain hgd fun K hK => ?_
  by_cases h0 : n = 0
  · subst h0
    have hrun := run_copy0 (P := Try.prog) (W.alloc (.cells (madeCells (Value.agg #[.int .i64 0, .int .i64 0, .int .i64 0, .int .i64 0]).cells (0 * 4)) 22)) 29 29 o.type 22 4 (some ⟨W.heap.size, 0, none⟩) p c Try.underlying29 hi
    obtain rfl : l = [] := List.eq_nil_of_length_eq_zero hn
    unfold Oper.wp
    simp [execOp, ho, resolve, invoke, builtin, hd, hs, hrun, Result.andThen]
    exact hK _ _ (h _ (own_made W 0 (by omega)) hb0 (by simp))
  · obtain ⟨b, o', rfl, hlt, hc⟩ := hr (by rw [flat_len]; omega)
    have hrun := run_copyK (P := Try.prog) (W.alloc (.cells (madeCells (Value.agg #[.int .i64 0, .int .i64 0, .int .i64 0, .int .i64 0]).cells (n * 4)) 22)) 29 29 o.type 22 4 W.heap.size n ⟨b, o', none⟩ c _ 22 (flat l) Try.underlying29 hi (heap_alloc_new W _) (by rw [flat_len, hn]; omega)
      (fun j v hv => by
        have := (hb0.cell (p := ⟨b, o' + j, none⟩) hlt).trans (hc j v hv)
        rw [addP]; exact this) (size_madeCells _ _) (flat_one l)
    unfold Oper.wp
    simp [execOp, ho, resolve, invoke, builtin, hd, hs, hrun, Result.andThen]
    refine hK _ _ (h _ ?_ (hb0.trans (below_setRow' (Nat.le_refl _) _)) (by simp [World.setRow]))
    unfold Own
    rw [hn]
    exact ⟨by rw [flat_len, hn]; omega, .inr ⟨W.heap.size, n, _, rfl, Nat.le_refl _, setRow_heap _ _ _ _ _ _ (heap_alloc_new W _), Nat.le_refl _, by simp only [maxLen]; omega, by rw [List.size_toArray, flat_len, hn]; omega, List.take_of_length_le (by simp [flat_len, hn]; omega)⟩⟩
/-- Numbers are copied into a slice just made. -/
theorem copy_intsR {ops : Array Oper} {rest : List Oper} {o : Oper} {a : Act} {Q : Exit → Act → World → Prop} (hgd : o.guard = none) (d s : Operand) (ho : o.op = .call { callee := .builtin .copy, args := #[d, s], argTypes := #[43, 43] })
    {W : World} {g n c : Nat} {p : Option Addr} {l : List Int} (hg : W.heap.size = g) (hd : a.eval d = .slice (some ⟨g, 0, none⟩) n n) (hs : a.eval s = .slice p n c) (hn : l.length = n) (hr : Rd W p (ints l)) (hnm : n ≤ 1000000000)
    (h : ∀ w', OwnI w' g (.slice (some ⟨g, 0, none⟩) n n) l → Below g W w' → g < w'.heap.size → wpList Try.prog ops Q rest (a.put o.dst (goInt n)) w') :
    wpList Try.prog ops Q (o :: rest) a (W.alloc (.cells (madeCells #[Value.int .i64 0] n) 3)) := by
  subst hg
  have hi : ((Try.prog).info? 3).map (·.size) = some 1 := by kernel_rfl
  have hb0 : Below W.heap.size W (W.alloc (.cells (madeCells #[Value.int .i64 0] n) 3)) := (Below.refl _ _).alloc (Nat.le_refl _) _
  refine wpList_plain hgd fun K hK => ?_
  by_cases h0 : n = 0
  · subst h0
    have hrun := run_copy0 (P := Try.prog) (W.alloc (.cells (madeCells #[Value.int .i64 0] 0) 3)) 43 43 o.type 3 1 (some ⟨W.heap.size, 0, none⟩) p c Try.underlying43 hi
    obtain rfl : l = [] := List.eq_nil_of_length_eq_zero hn
    unfold Oper.wp
    simp [execOp, ho, resolve, invoke, builtin, hd, hs, hrun, Result.andThen]
    exact hK _ _ (h _ (own_madeI W 0 (by omega)) hb0 (by simp))
  · obtain ⟨b, o', rfl, hlt, hc⟩ := hr (by rw [ints_len]; omega)
    have hrun := run_copyK (P := Try.prog) (W.alloc (.cells (madeCells #[Value.int .i64 0] n) 3)) 43 43 o.type 3 1 W.heap.size n ⟨b, o', none⟩ c _ 3 (ints l) Try.underlying43 hi (heap_alloc_new W _) (by rw [ints_len, hn]; omega)
      (fun j v hv => by
        have := (hb0.cell (p := ⟨b, o' + j, none⟩) hlt).trans (hc j v hv)
        rw [addP]; exact this) (by rw [size_madeCells, Nat.mul_one]) (fun v hv => by unfold ints at hv; obtain ⟨x, _, rfl⟩ := List.mem_map.1 hv; rfl)
    unfold Oper.wp
    simp [execOp, ho, resolve, invoke, builtin, hd, hs, hrun, Result.andThen]
    refine hK _ _ (h _ ?_ (hb0.trans (below_setRow' (Nat.le_refl _) _)) (by simp [World.setRow]))
    unfold OwnI
    rw [hn]
    exact ⟨by rw [ints_len, hn]; omega, .inr ⟨W.heap.size, n, _, rfl, Nat.le_refl _, setRow_heap _ _ _ _ _ _ (heap_alloc_new W _), Nat.le_refl _, by simp only [maxLen]; omega, by rw [List.size_toArray, ints_len, hn]; omega, List.take_of_length_le (by simp [ints_len, hn])⟩⟩
end Go.Proofs.Ytjanphcfflahkaa.game

/- A Game copied: the program's. -/
namespace Go.Proofs.Ytjanphcfflahkaa.game
open Go.RowKit
open cards deal
set_option linter.unusedVariables false

end Go.Proofs.Ytjanphcfflahkaa.game

/- The tally behind a tally; a row of numbers copied by the model. -/
namespace Go.Proofs.Ytjanphcfflahkaa.game
open Go.RowKit
open cards deal
set_option linter.unusedVariables false

theorem ints_oneJ : ∀ (l : List Int), ∀ u ∈ ints l, u.oneCell' = true := fun l u h => by
  obtain ⟨x, _, rfl⟩ := List.mem_map.1 h
  rfl
set_option maxRecDepth 100000 in
/-- All numbers of another slice are appended. -/
theorem append_intsJ {ops : Array Oper} {rest : List Oper} {o : Oper} {a : Act} {Q : Exit → Act → World → Prop} (hgd : o.guard = none) (s x : Operand)
    (ho : o.op = .call { callee := .builtin .append, args := #[s, x], argTypes := #[43, 43] }) (B : Nat) (v : Value) (l l2 : List Int) (g q m c : Nat) (W : World)
    (hs : a.eval s = v) (hx : a.eval x = .slice (some ⟨g, q, none⟩) m c) (hO : OwnI W B v l) (hm : l2.length = m) (hR : Rd W (some ⟨g, q, none⟩) (ints l2)) (hl : l.length + m ≤ 1000000000) (hB : B ≤ W.heap.size)
    (h : ∀ v' w', OwnI w' B v' (l ++ l2) → (v ≠ .slice none 0 0 → v' ≠ .slice none 0 0) → Below B W w' → wpList Try.prog ops Q rest (a.put o.dst v') w') : wpList Try.prog ops Q (o :: rest) a W := by
  obtain ⟨i, hi, hz, hsz, hb⟩ := info_parts int_info
  refine wpList_append_own (P := Try.prog) W hgd s x 43 ho B 3 i (.int .i64 0) 1 8 Try.underlying43 hi hz hsz hb rfl (by decide) v l.length (ints l) hs hO ⟨g, q, none⟩ m c (ints l2) hx (by rw [ints_len, hm]; omega) ?_ (ints_oneJ l2) (by simp only [maxLen]; omega) (by omega) hB ?_
  · intro j u hu
    obtain ⟨b, o, e, _, hc⟩ := hR (Nat.lt_of_le_of_lt (Nat.zero_le _) (List.getElem?_eq_some_iff.1 hu).1)
    injection e with e
    injection e with e1 e2
    subst e1; subst e2
    rw [addP]; exact hc j u hu
  · intro v' w' h1 h2 h3
    refine h v' w' ?_ (fun hn e => hn (h3.1 e).1) ((Below.refl _ _).grown h2 hB (fun k hk => (World.ownsRow.lt hO k hk).1))
    unfold OwnI
    rw [List.length_append, hm]
    have e : ints (l ++ l2) = ints l ++ ints l2 := by simp [ints]
    rw [e]; exact h1
set_option maxRecDepth 100000 in
set_option maxHeartbeats 2000000 in
theorem l1_own (l : List Int) (b q n cp : Nat) (w : World) (hn : l.length = n) (hl : n ≤ 1000000) (hr : Rd w (some ⟨b, q, none⟩) (ints l)) :
    Calls Try.prog 65 #[.slice (some ⟨b, q, none⟩) n cp] w fun e w' => ∃ u, e = .returned u ∧ OwnI w' w.heap.size u l ∧ Below w.heap.size w w' := by
  have HN := Lib.hid hn
  have HR := Lib.hid hr
  have HO := Lib.hid (OwnI.empty w w.heap.size (Nat.le_refl _))
  have HB0 : Hid (Below w.heap.size w (w.alloc (.cells #[] 3))) := Lib.hid ((Below.refl _ _).alloc (Nat.le_refl _) _)
  clear hn hr
  go_enter Try.func65, Try.ntmps65
  go_wp2_with (at_builtin; refine append_intsJ rfl (.tmp 3) (.tmp 4) rfl w.heap.size (.slice (some ⟨w.heap.size, 0, none⟩) 0 0) [] l b q n cp _ rfl rfl HO.out HN.out (HR.out.alloc _) (by simp; omega) HB0.out.size ?_; intro v1 w1 hO1 hN1 hB1)
  go_ret
  exact ⟨_, rfl, hO1, HB0.out.trans hB1⟩
/-- The Deal's cards are others now, in memory made since. -/
theorem OwnG.newL {w w1 : World} {B C : Nat} {vl vs vw u : Value} {l l' : List Cd} {sc wr : List Int} (h : OwnG w B C vl vs vw l sc wr) (b : Below w.heap.size w w1) (hu : Own w1 w.heap.size u l') (hB : B ≤ C) (hC : C ≤ w.heap.size) : OwnG w1 B w1.heap.size u vs vw l' sc wr := by
  have h' := h.below b
  have hs := b.size
  exact ⟨hu.base (Nat.le_trans hB hC), h'.o2, h'.o3, fun g e1 e2 => by have := (hu.span g e1).1; have := h.c2 g e2; omega, fun g e1 e2 => by have := (hu.span g e1).1; have := h.c3 g e2; omega, h'.a23, fun g e => (hu.span g e).2, fun g e => Nat.lt_of_lt_of_le (h.c2 g e) (Nat.le_trans hC hs), fun g e => Nat.lt_of_lt_of_le (h.c3 g e) (Nat.le_trans hC hs)⟩
end Go.Proofs.Ytjanphcfflahkaa.game

/- The region of a law that keeps a Game that a function returns; marks of a Game, block by block. -/
namespace Go.Proofs.Ytjanphcfflahkaa.game
open Go.RowKit
open cards deal reg
set_option linter.unusedVariables false

abbrev zeroG : Gv := ⟨51, 0, 0, .slice none 0 0, .slice none 0 0, .slice none 0 0⟩
/-- A block of another type is no row of the call's own. -/
theorem row_apart {w : World} {B : Nat} {T : TypeId} {k n : Nat} {v : Value} {xs : List Value} (h : w.ownsRow B T k v n xs) {g : Nat} {cs : Array Value} {t : TypeId} {fr : Nat × Nat} (hb : w.heap[g]? = some (.cells cs t fr)) (hne : T ≠ t) : ∀ q, v.ownBlock = some q → q ≠ g := by
  rintro q e rfl
  obtain ⟨_, ⟨rfl, _⟩ | ⟨g', cap, cur, rfl, _, hg, _⟩⟩ := h
  · cases e
  · have : q = g' := by injection e with e; exact e.symm
    subst this
    rw [hg] at hb
    injection hb with hb
    injection hb with _ h2 _
    exact absurd h2 hne
/-- A block that holds a Game is none of those that a Game of the call's own lies in. -/
def OffG (g : Nat) (vl vs vw : Value) : Prop := (∀ q, vl.ownBlock = some q → q ≠ g) ∧ (∀ q, vs.ownBlock = some q → q ≠ g) ∧ (∀ q, vw.ownBlock = some q → q ≠ g)
theorem offG {w : World} {B C g : Nat} {vl vs vw : Value} {l : List Cd} {sc wr : List Int} (h : OwnG w B C vl vs vw l sc wr) {x : Gv} (hb : GBox w g x) (ht : x.t = 51) : OffG g vl vs vw := by
  obtain ⟨t, s, n, v, u, q⟩ := x
  simp only at ht
  subst ht
  exact ⟨row_apart (t := 51) h.o1 hb (by decide), row_apart (t := 51) h.o2 hb (by decide), row_apart (t := 51) h.o3 hb (by decide)⟩
theorem OwnG.off {w w1 : World} {B C g : Nat} {vl vs vw : Value} {l : List Cd} {sc wr : List Int} (h : OwnG w B C vl vs vw l sc wr) (hg : w.grownBy w1 (some g)) (ho : OffG g vl vs vw) : OwnG w1 B C vl vs vw l sc wr :=
  ⟨World.ownsRow.kept h.o1 hg (by
      cases hv : vl.ownBlock with
      | none => exact .inl rfl
      | some k => exact .inr (fun e => ho.1 k hv (by injection e))),
    World.ownsRow.kept h.o2 hg (by
      cases hv : vs.ownBlock with
      | none => exact .inl rfl
      | some k => exact .inr (fun e => ho.2.1 k hv (by injection e))),
    World.ownsRow.kept h.o3 hg (by
      cases hv : vw.ownBlock with
      | none => exact .inl rfl
      | some k => exact .inr (fun e => ho.2.2 k hv (by injection e))), h.a12, h.a13, h.a23, h.c1, h.c2, h.c3⟩
section
variable {ops : Array Oper} {Q : Exit → Act → World → Prop}
/-- The result is a Game. -/
theorem region_game {id : Nat} {a : Act} {W : World} (r : List (Bool × Nat)) (i0 s d0 : Nat) (ts : List (Nat × Tmp × Tmp)) (oa os : Oper) (t : Tmp)
    (hok : chainOk .any ops oa i0 s ts r (Array.replicate ops.size false) = true) (hlen : ops.size = r.length + ts.length + 1 + 1) (has : assigns ops ts = true) (hsel : Region.noSelect ops = true)
    (ha0 : ops[i0]? = some oa) (hga : oa.guard = none) (hd : oa.dst = some d0) (hoa : oa.op = .alloc 51)
    (hs0 : ops[s]? = some os) (hgs : os.guard = none) (hds : os.dst = none) (hos : os.op = .store 51 (.tmp d0) (.tmp t)) (hne : t ≠ d0) (hsz : d0 < a.tmps.size)
    (h : chainA Try.prog ops (BI W) W.heap.size zeroG.obj (fun b I => ∃ (x y : Int) (v u q : Value), b.tmps.size = a.tmps.size ∧ v.oneCell' = true ∧ u.oneCell' = true ∧ q.oneCell' = true ∧ b.eval (.tmp t) = gval x y v u q ∧ ∀ w w' g, I w → W.heap.size ≤ g → GBox w g zeroG → w.grownBy w' (some g) → GBox w' g ⟨51, x, y, v, u, q⟩ → ∃ a', runsTo ts (b.put (some d0) (ptr g)) a' ∧ Q .normal a' w') r a (BI W)) :
    (Code.region id ops true).wp Try.prog Q a W := by
  refine region_alloc r i0 s d0 ts oa os zeroG.obj [] W.heap.size (BI W) (BI W) 51 (.tmp d0) (.tmp t) (by kernel_rfl) hok hlen has hsel ha0 hga hd ?_ hs0 hgs hds hos (clo_BI W _) (BI.start W) ?_
  · intro a w
    unfold execOp
    rw [hoa]
    kernel_rfl
  · refine chainA_mono ?_ r a _ (fun _ h => h) h
    intro b I hIS ⟨x, y, v, u, q, hsb, hv, hu, hq, hm, hk⟩ w g hI0 hg hb
    have hI := hIS w hI0
    have hB : GBox w g zeroG := hb
    have hw : BI W (w.setCells g 0 [.int .i64 x, .int .i64 y, v, u, q]) := Below.grown hI (grown_setsV g _ _ _) hI.size (fun k hk => by injection hk with hk; omega)
    refine ⟨#[.int .i64 x, .int .i64 y, v, u, q], ?_, ?_, ?_, by kernel_rfl, by (rw [Array.all_eq_true_iff_forall_mem]; intro z hz; simp at hz; rcases hz with rfl | rfl | rfl | rfl | rfl; rfl; rfl; exact hv; exact hu; exact hq), hw, hk w _ g hI0 hg hb (grown_setsV g _ _ _) (gbox_sets hB x y v u q)⟩
    · show (b.tmps.setIfInBounds d0 (ptr g)).getD d0 undef = ptr g
      simp [Array.getElem?_setIfInBounds, hsb, hsz]
    · rw [Act.eval_put (by intro d hd he; cases hd; cases he; exact hne rfl)]; exact hm
    · intro j hj
      have hj : j < 5 := hj
      refine ⟨?_, hB.frozen _⟩
      rw [Nat.zero_add, cell_of_row w g _ _ _ _ hB]
      rcases (show j = 0 ∨ j = 1 ∨ j = 2 ∨ j = 3 ∨ j = 4 by omega) with rfl | rfl | rfl | rfl | rfl <;> rfl
end
/-- All but the blocks of a Game of the call's own is as it was. -/
def OutV (vl vs vw : Value) (w w1 : World) : Prop := ∀ k, k < w.heap.size → (∀ q, vl.ownBlock = some q → q ≠ k) → (∀ q, vs.ownBlock = some q → q ≠ k) → (∀ q, vw.ownBlock = some q → q ≠ k) → w1.heap[k]? = w.heap[k]?
theorem GBox.outV {vl vs vw : Value} {w w1 : World} {g : Nat} {x : Gv} (h : GBox w g x) (o : OutV vl vs vw w w1) (hg : OffG g vl vs vw) : GBox w1 g x := (o g h.lt hg.1 hg.2.1 hg.2.2).trans h
set_option maxRecDepth 100000 in
set_option maxHeartbeats 2000000 in
theorem mark_gameX (s nx : Int) (l : List Cd) (sc wr : List Int) (vl vs vw : Value) (B C k0 n ns nw : Nat) (w : World) (hn : l.length = n) (hs : sc.length = ns) (hw : wr.length = nw) (hl : k0 + 4 * n + ns + nw ≤ 1000000000) (hC : C ≤ w.heap.size) (hB : B ≤ C) (ho : OwnG w B C vl vs vw l sc wr) :
    Calls Try.prog 32 #[gval s nx vl vs vw, .int .i64 k0] w fun e w' => e = .returned (.int .i64 (k0 + 4 * n + ns + nw : Nat)) ∧ OwnG w' B C vl vs vw (marked k0 n) (markedI (k0 + 4 * n) ns) (markedI (k0 + 4 * n + ns) nw) ∧ (Out B C w w' ∧ OutV vl vs vw w w') := by
  obtain ⟨p, c, ps, cs, pw, cw, rfl, rfl, rfl, _⟩ := ho.form
  rw [hn, hs, hw] at ho ⊢
  have HN := Lib.hid hn
  have HS := Lib.hid hs
  have HW := Lib.hid hw
  have HO := Lib.hid (ho.alloc (Gv.obj ⟨51, s, nx, .slice p n c, .slice ps ns cs, .slice pw nw cw⟩))
  have HB := Lib.hid (Out.of_below (a := B) (b := C) ((Below.refl w.heap.size w).alloc (Nat.le_refl _) (Gv.obj ⟨51, s, nx, .slice p n c, .slice ps ns cs, .slice pw nw cw⟩)))
  have K1 : Hid (GBox (w.alloc (Gv.obj ⟨51, s, nx, .slice p n c, .slice ps ns cs, .slice pw nw cw⟩)) w.heap.size ⟨51, s, nx, .slice p n c, .slice ps ns cs, .slice pw nw cw⟩) := Lib.hid (GBox.newAt rfl rfl)
  have HZ : Hid (w.heap.size ≤ (w.alloc (Gv.obj ⟨51, s, nx, .slice p n c, .slice ps ns cs, .slice pw nw cw⟩)).heap.size) := Lib.hid (by simp)
  obtain ⟨k1, hk1⟩ : ∃ k1, k0 + 4 * n = k1 := ⟨_, rfl⟩
  obtain ⟨k2, hk2⟩ : ∃ k2, k1 + ns = k2 := ⟨_, rfl⟩
  obtain ⟨k3, hk3⟩ : ∃ k3, k2 + nw = k3 := ⟨_, rfl⟩
  have HM1 := Lib.hid (fun w => mark_deal s nx l (.slice p n c) B k0 n w HN.out (by omega))
  have HM2 := Lib.hid (fun w => mark_ints sc (.slice ps ns cs) B k1 ns w HS.out (by omega))
  have HM3 := Lib.hid (fun w => mark_ints wr (.slice pw nw cw) B k2 nw w HW.out (by omega))
  rw [hk1] at HM1
  rw [hk2] at HM2
  rw [hk3] at HM3
  rw [hk1, hk2, hk3]
  have HV0 : Hid (OutV (.slice p n c) (.slice ps ns cs) (.slice pw nw cw) w (w.alloc (Gv.obj ⟨51, s, nx, .slice p n c, .slice ps ns cs, .slice pw nw cw⟩))) := Lib.hid (fun k hk _ _ _ => Below.heap_alloc w _ k hk)
  clear hn hs hw ho hk1 hk2 hk3 hl
  go_enter Try.func32, Try.ntmps32
  go_upto_region 1 with fail
  generalize (w.alloc (Gv.obj ⟨51, s, nx, .slice p n c, .slice ps ns cs, .slice pw nw cw⟩)) = W0 at HO HB K1 HZ HV0 ⊢
  obtain ⟨k1a, k1b, k1c, k1d, k1e⟩ := K1.out.cell
  have k1z := K1.out.lt
  go_wp2_with fail
  refine (HM1.out _ (by have := HZ.out; omega) HO.out.o1).mono ?_
  rintro e w1 ⟨rfl, o1, g1⟩
  have q1 : Out B C W0 w1 := Out.grown g1 (fun g e => ⟨(HO.out.o1.span g e).1, HO.out.c1 g e⟩)
  have HB1 := Lib.hid (HB.out.trans q1)
  have K11 := Lib.hid (GBox.out K1.out q1 (.inr hC))
  have HO1 : Hid (OwnG w1 B C (.slice p n c) (.slice ps ns cs) (.slice pw nw cw) (marked k0 n) sc wr) := Lib.hid ⟨o1, OwnI.past HO.out.o2 g1 HO.out.a12, OwnI.past HO.out.o3 g1 HO.out.a13, HO.out.a12, HO.out.a13, HO.out.a23, HO.out.c1, HO.out.c2, HO.out.c3⟩
  have HZ1 := Lib.hid (Nat.le_trans HZ.out g1.size)
  have HV1 : Hid (OutV (.slice p n c) (.slice ps ns cs) (.slice pw nw cw) w w1) := Lib.hid (fun k hk h1 h2 h3 => (g1.block k (Nat.lt_of_lt_of_le hk HZ.out) (fun e => h1 k e.symm rfl)).trans (HV0.out k hk h1 h2 h3))
  clear o1 g1 q1 k1a k1b k1c k1d k1e k1z
  obtain ⟨k1a, k1b, k1c, k1d, k1e⟩ := K11.out.cell
  have k1z := K11.out.lt
  go_wp2_with fail
  refine (HM2.out _ (by have := HZ1.out; omega) HO1.out.o2).mono ?_
  rintro e w2 ⟨rfl, o2, g2⟩
  have q2 : Out B C w1 w2 := Out.grown g2 (fun g e => ⟨(HO1.out.o2.span g e).1, HO1.out.c2 g e⟩)
  have HB2 := Lib.hid (HB1.out.trans q2)
  have K12 := Lib.hid (GBox.out K11.out q2 (.inr hC))
  have HO2 : Hid (OwnG w2 B C (.slice p n c) (.slice ps ns cs) (.slice pw nw cw) (marked k0 n) (markedI k1 ns) wr) := Lib.hid ⟨Own.past HO1.out.o1 g2 HO1.out.a12.symm, o2, OwnI.past HO1.out.o3 g2 HO1.out.a23, HO1.out.a12, HO1.out.a13, HO1.out.a23, HO1.out.c1, HO1.out.c2, HO1.out.c3⟩
  have HZ2 := Lib.hid (Nat.le_trans HZ1.out g2.size)
  have HV2 : Hid (OutV (.slice p n c) (.slice ps ns cs) (.slice pw nw cw) w w2) := Lib.hid (fun k hk h1 h2 h3 => (g2.block k (Nat.lt_of_lt_of_le hk HZ1.out) (fun e => h2 k e.symm rfl)).trans (HV1.out k hk h1 h2 h3))
  clear o2 g2 q2 k1a k1b k1c k1d k1e k1z
  obtain ⟨k1a, k1b, k1c, k1d, k1e⟩ := K12.out.cell
  have k1z := K12.out.lt
  go_wp2_with fail
  refine (HM3.out _ (by have := HZ2.out; omega) HO2.out.o3).mono ?_
  rintro e w3 ⟨rfl, o3, g3⟩
  have q3 : Out B C w2 w3 := Out.grown g3 (fun g e => ⟨(HO2.out.o3.span g e).1, HO2.out.c3 g e⟩)
  have HB3 := Lib.hid (HB2.out.trans q3)
  have HO3 : Hid (OwnG w3 B C (.slice p n c) (.slice ps ns cs) (.slice pw nw cw) (marked k0 n) (markedI k1 ns) (markedI k2 nw)) := Lib.hid ⟨Own.past HO2.out.o1 g3 HO2.out.a13.symm, OwnI.past HO2.out.o2 g3 HO2.out.a23.symm, o3, HO2.out.a12, HO2.out.a13, HO2.out.a23, HO2.out.c1, HO2.out.c2, HO2.out.c3⟩
  have HV3 : Hid (OutV (.slice p n c) (.slice ps ns cs) (.slice pw nw cw) w w3) := Lib.hid (fun k hk h1 h2 h3 => (g3.block k (Nat.lt_of_lt_of_le hk HZ2.out) (fun e => h3 k e.symm rfl)).trans (HV2.out k hk h1 h2 h3))
  clear o3 g3 q3 k1a k1b k1c k1d k1e k1z
  go_wp2_with fail
  go_ret
  exact ⟨rfl, HO3.out, HB3.out, HV3.out⟩

end Go.Proofs.Ytjanphcfflahkaa.game

/- The region of a law that keeps what a function returns: a Deal. -/
namespace Go.Proofs.Ytjanphcfflahkaa.reg
open Go.RowKit
open cards deal
set_option linter.unusedVariables false

theorem grown_setD (w : World) (g i : Nat) (v : Value) : w.grownBy (w.setCell ⟨g, i, none⟩ v) (some g) :=
  ⟨rfl, rfl, rfl, by simp [World.setCell], fun k hk hne => Below.heap_setCell _ _ _ _ (fun e => hne (by rw [e]))⟩
theorem grown_setsD (g : Nat) : ∀ (vs : List Value) (o : Nat) (w : World), w.grownBy (w.setCells g o vs) (some g)
  | [], o, w => World.grownBy.refl w _
  | v :: r, o, w => World.grownBy.trans (grown_setD w g o v) (grown_setsD g r (o + 1) _)
abbrev zeroD : Dv := ⟨49, 0, 0, .slice none 0 0⟩
/-- A block of another type than cards is no row of cards of the call's own. -/
theorem own_apart {w : World} {B : Nat} {v : Value} {l : List Cd} (h : Own w B v l) {g : Nat} (hb : w.heap[g]? = some zeroD.obj) : ∀ q, v.ownBlock = some q → q ≠ g := by
  rintro q e rfl
  obtain ⟨_, ⟨rfl, _⟩ | ⟨g', cap, cur, rfl, _, hg, _⟩⟩ := h
  · cases e
  · have : q = g' := by injection e with e; exact e.symm
    subst this
    rw [hg] at hb
    injection hb with hb
    injection hb with _ h2 _
    exact absurd h2 (by decide)
theorem own_grown {w w1 : World} {B : Nat} {v : Value} {l : List Cd} {row : Option Nat} (h : Own w B v l) (hg : w.grownBy w1 row) (hne : ∀ q, v.ownBlock = some q → row ≠ some q) : Own w1 B v l :=
  World.ownsRow.kept h hg (by
    cases hv : v.ownBlock with
    | none => simp
    | some g => exact .inr (Ne.symm (hne g hv)))
section
variable {ops : Array Oper} {Q : Exit → Act → World → Prop}
/-- The result is a Deal. -/
theorem region_deal {id : Nat} {a : Act} {W : World} (r : List (Bool × Nat)) (i0 s d0 : Nat) (ts : List (Nat × Tmp × Tmp)) (oa os : Oper) (t : Tmp)
    (hok : chainOk .any ops oa i0 s ts r (Array.replicate ops.size false) = true) (hlen : ops.size = r.length + ts.length + 1 + 1) (has : assigns ops ts = true) (hsel : Region.noSelect ops = true)
    (ha0 : ops[i0]? = some oa) (hga : oa.guard = none) (hd : oa.dst = some d0) (hoa : oa.op = .alloc 49)
    (hs0 : ops[s]? = some os) (hgs : os.guard = none) (hds : os.dst = none) (hos : os.op = .store 49 (.tmp d0) (.tmp t)) (hne : t ≠ d0) (hsz : d0 < a.tmps.size)
    (h : chainA Try.prog ops (BI W) W.heap.size zeroD.obj (fun b I => ∃ (x y : Int) (v : Value), b.tmps.size = a.tmps.size ∧ v.oneCell' = true ∧ b.eval (.tmp t) = dval x y v ∧ ∀ w w' g, I w → W.heap.size ≤ g → w.heap[g]? = some zeroD.obj → w.grownBy w' (some g) → DBox w' g ⟨49, x, y, v⟩ → ∃ a', runsTo ts (b.put (some d0) (ptr g)) a' ∧ Q .normal a' w') r a (BI W)) :
    (Code.region id ops true).wp Try.prog Q a W := by
  refine region_alloc r i0 s d0 ts oa os zeroD.obj [] W.heap.size (BI W) (BI W) 49 (.tmp d0) (.tmp t) (by kernel_rfl) hok hlen has hsel ha0 hga hd ?_ hs0 hgs hds hos (clo_BI W _) (BI.start W) ?_
  · intro a w
    unfold execOp
    rw [hoa]
    kernel_rfl
  · refine chainA_mono ?_ r a _ (fun _ h => h) h
    intro b I hIS ⟨x, y, v, hsb, hv, hm, hk⟩ w g hI0 hg hb
    have hI := hIS w hI0
    have hB : DBox w g zeroD := hb
    have hw : BI W (w.setCells g 0 [.int .i64 x, .int .i64 y, v]) := Below.grown hI (grown_setsD g _ _ _) hI.size (fun k hk => by injection hk with hk; omega)
    refine ⟨#[.int .i64 x, .int .i64 y, v], ?_, ?_, ?_, by kernel_rfl, by (rw [Array.all_eq_true_iff_forall_mem]; intro u hu; simp at hu; rcases hu with rfl | rfl | rfl; rfl; rfl; exact hv), hw, hk w _ g hI0 hg hb (grown_setsD g _ _ _) (DBox.set_ hB x y v)⟩
    · show (b.tmps.setIfInBounds d0 (ptr g)).getD d0 undef = ptr g
      simp [Array.getElem?_setIfInBounds, hsb, hsz]
    · rw [Act.eval_put (by intro d hd he; cases hd; cases he; exact hne rfl)]; exact hm
    · intro j hj
      have hj : j < 3 := hj
      refine ⟨?_, hB.frozen _⟩
      rw [Nat.zero_add, cell_of_row w g _ _ _ _ hB]
      rcases (show j = 0 ∨ j = 1 ∨ j = 2 by omega) with rfl | rfl | rfl <;> rfl
end
end Go.Proofs.Ytjanphcfflahkaa.reg

/- A Game copied: the model's. -/
namespace Go.Proofs.Ytjanphcfflahkaa.game
open Go.RowKit
open cards deal reg
set_option linter.unusedVariables false

section
variable {ops : Array Oper} {S I : World → Prop} {n0 : Nat} {obj : Obj} {fin : Act → (World → Prop) → Prop}
theorem chain_cell (d : Tmp) {i : Nat} {r : List (Bool × Nat)} {a : Act} {v : Value} {o : Oper} {T : TypeId} {x : Operand} {p : Addr} (ho : ops[i]? = some o) (hd : o.dst = some d) (hg : o.guard = none) (hop : o.op = .load T x) (hx : a.eval x = .pointer (some p))
    (hc : ∀ w, S w → (loadVar T p).run Try.prog w = .ok v w) (hr : chainA Try.prog ops S n0 obj fin r (a.put (some d) v) I) : chainA Try.prog ops S n0 obj fin ((true, i) :: r) a I :=
  ⟨o, v, ho, .inl ⟨wanted_of hg, fun w hw => by
    unfold execOp
    rw [hop]
    simp only [hx]
    have h := hc w hw
    simp [Instr.loadAt, Instr.sureAddr, asAddr, h, Result.andThen]⟩, hd ▸ hr⟩
end

end Go.Proofs.Ytjanphcfflahkaa.game

/- Is a claim right; its kind: the program's. -/
namespace Go.Proofs.Ytjanphcfflahkaa.game
open Go.RowKit
open cards deal
set_option linter.unusedVariables false

abbrev mkC (q : Int) (t : A3) : Cd := ⟨q, t.a, t.b, t.c⟩
theorem right_yes {l : List Cd} {ns : Nat} {c : Cd} {t : A3} {q : Nat} (hq : q < ns) (ht : t ∈ lines l) (h : same c (mkC q t) = true) : rightB l ns c = true := by
  have e := same_iff.1 h
  unfold rightB isP plc
  rw [e, Bool.and_eq_true]
  exact ⟨decide_eq_true (by simp only; omega), has3_iff.2 ht⟩
theorem right_no {l : List Cd} {ns : Nat} {c : Cd} (h : ∀ (k : Nat) t, (lines l)[k]? = some t → ∀ q : Nat, q < ns → same c (mkC q t) = false) : rightB l ns c = false := by
  cases hr : rightB l ns c
  · rfl
  · unfold rightB at hr
    rw [Bool.and_eq_true] at hr
    obtain ⟨h1, h2⟩ := hr
    unfold isP at h1
    have h1 := of_decide_eq_true h1
    obtain ⟨k, hk⟩ := List.mem_iff_getElem?.1 (has3_iff.1 h2)
    have := h k _ hk c.a.toNat (by omega)
    have e : mkC (c.a.toNat : Int) (plc c) = c := by
      obtain ⟨a, b, d, f⟩ := c
      simp only [mkC, plc, Cd.mk.injEq, and_true]
      simp only at h1
      omega
    rw [e] at this
    rw [same_self] at this
    cases this

end Go.Proofs.Ytjanphcfflahkaa.game

/- The kind of a claim: the program's and the model's. -/
namespace Go.Proofs.Ytjanphcfflahkaa.game
open Go.RowKit
open cards deal
set_option linter.unusedVariables false

theorem kind_r {l : List Cd} {ns : Nat} {c : Cd} (h : rightB l ns c = true) : kind l ns c = 1 := by unfold kind; rw [if_pos h]
theorem kind_w {l : List Cd} {ns : Nat} {c : Cd} (h : rightB l ns c = false) (h1 : isP ns c.a = true) (h2 : onT l.length (plc c) = true) : kind l ns c = 2 := by unfold kind; rw [if_neg (by simp [h]), if_pos (by simp [h1, h2])]
theorem kind_i {l : List Cd} {ns : Nat} {c : Cd} (h : rightB l ns c = false) (h1 : (isP ns c.a && onT l.length (plc c)) = false) : kind l ns c = 3 := by unfold kind; rw [if_neg (by simp [h]), if_neg (by simp [h1])]

/-! The model. -/
theorem right_p {l : List Cd} {ns : Nat} {c : Cd} (h : isP ns c.a = true) : rightB l ns c = has3 (lines l) (plc c) := by unfold rightB; rw [h]; rfl
theorem right_np {l : List Cd} {ns : Nat} {c : Cd} (h : isP ns c.a = false) : rightB l ns c = false := by unfold rightB; rw [h]; rfl

end Go.Proofs.Ytjanphcfflahkaa.game

/- ClaimKind: the program's and the model's. -/
namespace Go.Proofs.Ytjanphcfflahkaa.game
open Go.RowKit
open cards deal
set_option linter.unusedVariables false

noncomputable def ckR (g : Gm) (cl : Cd) : Int × Bool := if g.ok = true then (kind g.l g.sc.length cl, true) else (0, false)
/-- What is known of the slices of a valid Game. -/
structure OkG (g : Gm) (n ns : Nat) : Prop where
  n : n ≤ 81
  ns : 1 ≤ ns ∧ ns ≤ 4
  ok : g.l.all Cd.ok = true
  nd : g.l.Nodup
theorem okG {g : Gm} {n c ns cs nw cw : Nat} {p ps pw : Option Addr} (hf : FitG n c ns cs nw cw p ps pw g) (h : g.okP) : OkG g n ns :=
  ⟨by have h1 := h.d.len81; have h2 := hf.hn; have h3 : g.l.length ≤ 81 := h1; omega, by have h1 := h.p1; have h2 := h.p4; have h3 := hf.hs; omega, h.d.cards, h.d.2.2.2⟩

end Go.Proofs.Ytjanphcfflahkaa.game

/- Stores into a Game's block, and into its tallies. -/
namespace Go.Proofs.Ytjanphcfflahkaa.game
open Go.RowKit
open cards deal reg
set_option linter.unusedVariables false

theorem OwnI.apartJ {w : World} {B : Nat} {v : Value} {l : List Int} (h : OwnI w B v l) {p : Addr} (hp : ∀ g, v.ownBlock = some g → g ≠ p.block) (u : Value) : OwnI (w.setCell p u) B v l := by
  obtain ⟨hl, h0 | ⟨g, cap, cur, e, hb, hg, r⟩⟩ := h
  · exact ⟨hl, .inl h0⟩
  · subst e
    exact ⟨hl, .inr ⟨g, cap, cur, rfl, hb, (Below.heap_setCell w p u g (hp g rfl)).trans hg, r⟩⟩
theorem gb_cell (w : World) (g o : Nat) (u : Value) : w.grownBy (w.setCell ⟨g, o, none⟩ u) (some g) := ⟨rfl, rfl, rfl, by simp [World.setCell], fun k hk hne => Below.heap_setCell _ _ _ _ (fun e => hne (by rw [e]))⟩
theorem exec_index0 {k n b cp : Nat} (hk : k < n) {a : Act} {o : Oper} {p q : Operand} (ho : o.op = .indexAddr 43 p q) (hp : a.eval p = .slice (some ⟨b, 0, none⟩) n cp) (hq : a.eval q = .int .i64 k) (w : World) :
    (execOp a.eval o).run Try.prog w = .ok (.value (.pointer (some ⟨b, k, none⟩))) w := by
  have h := exec_indexI (ad := 0) hk ho hp hq w
  rwa [Nat.zero_add] at h
/-- There are so many blocks, at least. -/
structure SzA (w : World) (n : Nat) : Prop where
  h : n ≤ w.heap.size
theorem SzA.below {w w1 : World} {n : Nat} (h : SzA w n) (b : Below w.heap.size w w1) : SzA w1 n := ⟨Nat.le_trans h.h b.size⟩
theorem SzA.alloc {w : World} {n : Nat} (h : SzA w n) (o : Obj) : SzA (w.alloc o) n := h.below ((Below.refl _ _).alloc (Nat.le_refl _) o)
theorem SzA.drew {w : World} {n : Nat} (h : SzA w n) : SzA w.drew n := h.below ((Below.refl _ _).drew)
theorem SzA.drewN {w : World} {n : Nat} (h : SzA w n) (k : Nat) : SzA (w.drewN k) n := h.below (bdN (Below.refl _ _) k)
/-- A Deal is stored into a Game's block. -/
theorem deal_sets {w : World} {g : Nat} {t : TypeId} {s0 n0 : Int} {v0 u0 q0 : Value} (h : GBox w g ⟨t, s0, n0, v0, u0, q0⟩) (s n : Int) (v : Value) :
    GBox (((w.setCell ⟨g, 0, none⟩ (.int .i64 s)).setCell ⟨g, 1, none⟩ (.int .i64 n)).setCell ⟨g, 2, none⟩ v) g ⟨t, s, n, v, u0, q0⟩ ∧ w.grownBy (((w.setCell ⟨g, 0, none⟩ (.int .i64 s)).setCell ⟨g, 1, none⟩ (.int .i64 n)).setCell ⟨g, 2, none⟩ v) (some g) :=
  ⟨((h.set0 s).set1 n).set2 v, ((gb_cell w g 0 _).trans (gb_cell _ g 1 _)).trans (gb_cell _ g 2 _)⟩
theorem GBox.grown {w w1 : World} {g g2 : Nat} {x : Gv} (h : GBox w g x) (hg : w.grownBy w1 (some g2)) (hne : g ≠ g2) : GBox w1 g x := (hg.block g h.lt (fun e => hne (Option.some.inj e))).trans h
theorem CBox.grown {w w1 : World} {g g2 : Nat} {x : Cv} (h : CBox w g x) (hg : w.grownBy w1 (some g2)) (hne : g ≠ g2) : CBox w1 g x := (hg.block g h.lt (fun e => hne (Option.some.inj e))).trans h
theorem Below.by_ {B : Nat} {w w0 w1 : World} {g : Nat} (h : Below B w0 w) (hg : w.grownBy w1 (some g)) (hB : B ≤ w.heap.size) (hgB : B ≤ g) : Below B w0 w1 := Below.grown h hg hB (fun k hk => by injection hk with hk; omega)
/-- The tallies of the call's own lie in a block that holds no Game and no Claim. -/
theorem own_ps {w : World} {B n : Nat} {v : Value} {l : List Int} (h : OwnI w B v l) (hn : l.length = n) (hp : 0 < n) : ∃ g c, v = .slice (some ⟨g, 0, none⟩) n c := by
  obtain ⟨p, c, rfl, _, _, hg⟩ := h.form
  obtain ⟨g, rfl, _⟩ := hg (by omega)
  exact ⟨g, c, by rw [hn]⟩
theorem bump_sets {w : World} {B C gs n c : Nat} {vl vw : Value} {l : List Cd} {sc wt : List Int} (h : OwnG w B C vl (.slice (some ⟨gs, 0, none⟩) n c) vw l sc wt) (hn : sc.length = n) (k : Nat) (x : Int) (hx : sc[k]? = some x) :
    OwnG (w.setCell ⟨gs, k, none⟩ (.int .i64 (more x))) B C vl (.slice (some ⟨gs, 0, none⟩) n c) vw l (bump sc k) wt := by
  rw [bump_at hx]
  exact ⟨Own.apart h.o1 (fun g e e2 => h.a12 g e (by rw [show g = gs from e2]; rfl)) _, OwnI.store hn h.o2 k (more x), OwnI.apartJ h.o3 (fun g e e2 => h.a23 g (by rw [show g = gs from e2]; rfl) e) _, h.a12, h.a13, h.a23, h.c1, h.c2, h.c3⟩
theorem bump_setsW {w : World} {B C gs n c : Nat} {vl vs : Value} {l : List Cd} {sc wt : List Int} (h : OwnG w B C vl vs (.slice (some ⟨gs, 0, none⟩) n c) l sc wt) (hn : wt.length = n) (k : Nat) (x : Int) (hx : wt[k]? = some x) :
    OwnG (w.setCell ⟨gs, k, none⟩ (.int .i64 (more x))) B C vl vs (.slice (some ⟨gs, 0, none⟩) n c) l sc (bump wt k) := by
  rw [bump_at hx]
  exact ⟨Own.apart h.o1 (fun g e e2 => h.a13 g e (by rw [show g = gs from e2]; rfl)) _, OwnI.apartJ h.o2 (fun g e e2 => h.a23 g e (by rw [show g = gs from e2]; rfl)) _, OwnI.store hn h.o3 k (more x), h.a12, h.a13, h.a23, h.c1, h.c2, h.c3⟩
/-- What is to come of a Deal whose line is laid for. -/
theorem over_iff {d : Dl} (h : d.okP) (hs : stuckD d = true) (ho : overD d = false) : d.nx < 81 := by
  unfold overD at ho
  rw [hs, Bool.and_true, decide_eq_false_iff_not] at ho
  have := h.2.1.2
  omega
theorem over_no {d : Dl} (ho : overD d = true) : ¬ d.nx < 81 := by
  unfold overD at ho
  rw [Bool.and_eq_true, decide_eq_true_iff] at ho
  omega
end Go.Proofs.Ytjanphcfflahkaa.game

/- A region that draws its order: operations that only read, then the rest one behind the other, calls among them. -/
namespace Go.Proofs.Ytjanphcfflahkaa.cards
open Go.RowKit
open reg
set_option linter.unusedVariables false

section
variable {P : Program} {md : Region.Mode} {ops : Array Oper} {Q : Exit → Act → World → Prop} {S : World → Prop}
def runsU (P : Program) (ops : Array Oper) (S : World → Prop) (K : Act → World → Prop) : List Nat → Act → World → Prop
  | [], a, w => K a w
  | j :: r, a, w => ∃ o, ops[j]? = some o ∧ o.guard = none ∧ (Upon P (fun v w' => S w' ∧ runsU P ops S K r (a.put o.dst v) w') ((execOp a.eval o).run P w) ∨ ∃ w', (execOp a.eval o).run P w = .ok .skip w' ∧ S w' ∧ runsU P ops S K r (a.put o.dst undef) w')
theorem sequ_of : ∀ (st : List Nat) (l : Array Bool) (a : Act) (w : World), seqS md ops st l = true → runsU P ops S (Q .normal) st a w → wpAnyH P md ops Q S st.length l a w
  | [], l, a, w, hok, h => wpAnyH_done (by simpa [seqS] using hok) h 0
  | j :: r, l, a, w, hok, h => by
    simp only [seqS, Bool.and_eq_true, beq_iff_eq] at hok
    obtain ⟨o, ho, hg, hrun⟩ := h
    refine wpAnyH_all hok.1 (by simp) fun i hi => ?_
    obtain rfl : i = j := by simpa using hi
    rcases hrun with hrun | ⟨w', hrun, hS', hr⟩
    · exact wpOp_upon ho hg hrun fun v w' hJ => ⟨hJ.1, sequ_of r _ _ _ hok.2 hJ.2⟩
    · unfold wpOp
      simp only [ho, wanted_of hg, if_true]
      refine .inl ?_
      unfold Oper.wp
      rw [hrun]
      exact ⟨hS', sequ_of r _ _ _ hok.2 hr⟩
theorem runsU_mono {K K2 : Act → World → Prop} (hK : ∀ a w, K a w → K2 a w) : ∀ (st : List Nat) (a : Act) (w : World), runsU P ops S K st a w → runsU P ops S K2 st a w
  | [], a, w, h => hK a w h
  | j :: st, a, w, h => by
    obtain ⟨o, e1, e2, e3⟩ := h
    refine ⟨o, e1, e2, ?_⟩
    rcases e3 with e3 | ⟨w', h1, h2, h3⟩
    · exact .inl (Upon.imp e3 fun v w' hv => ⟨hv.1, runsU_mono hK st _ _ hv.2⟩)
    · exact .inr ⟨w', h1, h2, runsU_mono hK st _ _ h3⟩
theorem u_val {K : Act → World → Prop} {j : Nat} {r : List Nat} {a : Act} {w w' : World} {o : Oper} {v : Value} (ho : ops[j]? = some o) (hg : o.guard = none) (he : (execOp a.eval o).run P w = .ok (.value v) w') (hS : S w') (hr : runsU P ops S K r (a.put o.dst v) w') : runsU P ops S K (j :: r) a w :=
  ⟨o, ho, hg, .inl (by rw [he]; exact ⟨hS, hr⟩)⟩
theorem u_skip {K : Act → World → Prop} {j : Nat} {r : List Nat} {a : Act} {w w' : World} {o : Oper} (ho : ops[j]? = some o) (hg : o.guard = none) (he : (execOp a.eval o).run P w = .ok .skip w') (hS : S w') (hr : runsU P ops S K r (a.put o.dst undef) w') : runsU P ops S K (j :: r) a w :=
  ⟨o, ho, hg, .inr ⟨w', he, hS, hr⟩⟩
theorem u_call {K : Act → World → Prop} {j : Nat} {r : List Nat} {a : Act} {w : World} {o : Oper} {f : FuncId} {args : Array Value} (ho : ops[j]? = some o) (hg : o.guard = none) (he : (execOp a.eval o).run P w = .ok (.enter f args) w)
    (hc : Calls P f args w (fun e w' => ∃ v, e = .returned v ∧ S w' ∧ runsU P ops S K r (a.put o.dst v) w')) : runsU P ops S K (j :: r) a w :=
  ⟨o, ho, hg, .inl (Upon.enter he hc)⟩
/-- THE LAW. -/
theorem region_seq {id : Nat} {a : Act} {w : World} (r st : List Nat) (hm : P.follows .mixedOrders = true)
    (hok : okPJ .any ops [] st r (Array.replicate ops.size false) = true) (hlen : ops.size = r.length + (0 + st.length)) (hsel : Region.noSelect ops = true)
    (S : World → Prop) (hc : ∀ w', BI w w' → S w')
    (h : pureJ P ops S (fun b => ∀ w', BI w w' → runsU P ops S (Q .normal) st b w') r a) : (Code.region id ops true).wp P Q a w := by
  refine wp_region_noPanic (wp_region_held hm (S := S) ?_)
  have k := pures_of (md := .any) (Q := NoPanic Q) (S := S) (I := BI w) (js := []) (st := st) hsel (fun _ _ _ _ _ h => h) hc (K := fun b => ∀ w', BI w w' → runsU P ops S (Q .normal) st b w') (fun b w' l hK hI hok => by
    simp only [List.length_nil, okJ, Bool.and_eq_true] at hok
    rw [List.length_nil, Nat.zero_add]
    exact sequ_of st l b w' hok.2 (runsU_mono (fun a w h => NoPanic.normal h) st _ _ (hK w' hI))) r _ a _ hok (BI.start w) h
  simp only [List.length_nil] at k
  rw [← hlen] at k; exact k
end
end Go.Proofs.Ytjanphcfflahkaa.cards

/- A claim is made: the program's. -/
namespace Go.Proofs.Ytjanphcfflahkaa.game
open Go.RowKit
open cards deal reg
set_option linter.unusedVariables false

end Go.Proofs.Ytjanphcfflahkaa.game

/- A claim is made: the model's. -/
namespace Go.Proofs.Ytjanphcfflahkaa.game
open Go.RowKit
open cards deal reg
set_option linter.unusedVariables false

end Go.Proofs.Ytjanphcfflahkaa.game

/- MakeClaim: the program's and the model's. -/
namespace Go.Proofs.Ytjanphcfflahkaa.game
open Go.RowKit
open cards deal
set_option linter.unusedVariables false

theorem results_cell_tmp2 {fn : Func} {p u v : Tmp} {ty : TypeId} (h : fn.results = #[.cell p ty, .tmp u, .tmp v]) (tmps : Array Value) (P : Program) (w : World) :
    (results fn tmps).run P w = ((asAddr (tmps.getD p undef)).run P w).andThen fun a w₁ => ((loadVar ty a).run P w₁).andThen fun x w₂ => .ok (.tuple #[x, tmps.getD u undef, tmps.getD v undef]) w₂ := by
  simp only [results, h]
  simp [Sem.run_bind, Result.andThen]
theorem res_game3 {fn : Func} {i x y : Tmp} (hf : fn.results = #[.cell i 51, .tmp x, .tmp y]) {tmps : Array Value} {w : World} {g : Nat} {s n : Int} {v u q : Value} (ht : tmps.getD i undef = .pointer (some ⟨g, 0, none⟩)) (h : GBox w g ⟨51, s, n, v, u, q⟩) :
    (results fn tmps).run Try.prog w = .ok (.tuple #[gval s n v u q, tmps.getD x undef, tmps.getD y undef]) w := by
  have hl := load_game h
  rw [results_cell_tmp2 hf, ht]
  simp [asAddr, hl, Result.andThen]
theorem made_s {g : Gm} {c : Cd} (h : g.okP) : (made g c).s = g.s := by
  show (madeD g c).s = g.s
  have hu := up_s h.d
  unfold madeD
  split
  · exact hu
  · exact hu
noncomputable def mcR (g : Gm) (cl : Cd) : Gm × Int × Bool := if g.ok = true then (made g cl, madeK g cl, true) else (gm0, 0, false)
theorem mcR_len (g : Gm) (cl : Cd) : (mcR g cl).1.l.length ≤ 1000 ∧ (mcR g cl).1.sc.length ≤ 1000 ∧ (mcR g cl).1.wr.length ≤ 1000 := by
  unfold mcR
  split
  · rename_i h
    have ho := made_ok (c := cl) (Gm.ok_iff.1 h)
    have h1 := ho.d.len81
    have h4 := ho.p4
    have he := ho.eq
    simp only
    have h1' : (made g cl).l.length ≤ 81 := h1
    omega
  · exact ⟨by decide, by decide, by decide⟩

end Go.Proofs.Ytjanphcfflahkaa.game

/- Claims made one after the other: the program's. -/
namespace Go.Proofs.Ytjanphcfflahkaa.game
open Go.RowKit
open cards deal
set_option linter.unusedVariables false

theorem kinds_len (g : Gm) (cl : List Cd) : (kinds g cl).length = cl.length := by simp [kinds]
theorem kinds_at (g : Gm) (cl : List Cd) {k : Nat} (h : k < cl.length) : (kinds g cl)[k]? = some (runK g cl k) := by simp [kinds, h]
theorem runG_s {g : Gm} {cl : List Cd} (h : g.okP) : ∀ k, (runG g cl k).s = g.s
  | 0 => rfl
  | k + 1 => by
    simp only [runG]
    split
    · rw [made_s (runG_ok h k)]; exact runG_s h k
    · exact runG_s h k
/-- A Game is stored into a Game's block. -/
theorem game_sets {w : World} {g : Nat} {t : TypeId} {s0 n0 : Int} {v0 u0 q0 : Value} (h : GBox w g ⟨t, s0, n0, v0, u0, q0⟩) (s n : Int) (v u q : Value) :
    GBox (((((w.setCell ⟨g, 0, none⟩ (.int .i64 s)).setCell ⟨g, 1, none⟩ (.int .i64 n)).setCell ⟨g, 2, none⟩ v).setCell ⟨g, 3, none⟩ u).setCell ⟨g, 4, none⟩ q) g ⟨t, s, n, v, u, q⟩ ∧ w.grownBy (((((w.setCell ⟨g, 0, none⟩ (.int .i64 s)).setCell ⟨g, 1, none⟩ (.int .i64 n)).setCell ⟨g, 2, none⟩ v).setCell ⟨g, 3, none⟩ u).setCell ⟨g, 4, none⟩ q) (some g) :=
  ⟨h.set_ s n v u q, ((((gb_cell w g 0 _).trans (gb_cell _ g 1 _)).trans (gb_cell _ g 2 _)).trans (gb_cell _ g 3 _)).trans (gb_cell _ g 4 _)⟩
theorem offI {w : World} {B g : Nat} {v : Value} {l : List Int} (h : OwnI w B v l) {x : Gv} (hb : GBox w g x) (ht : x.t = 51) : ∀ q, v.ownBlock = some q → q ≠ g := by
  obtain ⟨t, s, n, v', u, q⟩ := x
  simp only at ht
  subst ht
  exact row_apart (t := 51) h hb (by decide)
theorem OwnI.grownO {w w1 : World} {B g : Nat} {v : Value} {l : List Int} (h : OwnI w B v l) (hg : w.grownBy w1 (some g)) (ho : ∀ q, v.ownBlock = some q → q ≠ g) : OwnI w1 B v l :=
  World.ownsRow.kept h hg (by
      cases hv : v.ownBlock with
      | none => exact .inl rfl
      | some k => exact .inr (fun e => ho k hv (by injection e)))

end Go.Proofs.Ytjanphcfflahkaa.game

/- May a list be made in a Game; the first right one: the program's. -/
namespace Go.Proofs.Ytjanphcfflahkaa.game
open Go.RowKit
open cards deal
set_option linter.unusedVariables false

def okR (g : Gm) (m : Nat) : Prop := g.ok = true ∧ m ≤ 60
noncomputable def frR (g : Gm) (cl : List Cd) : Int × Bool := if g.ok = true ∧ cl.length ≤ 60 then (if posI (kinds g cl) 1 < 0 then (0, false) else (posI (kinds g cl) 1, true)) else (0, false)

end Go.Proofs.Ytjanphcfflahkaa.game

/- FirstRight: the model's. -/
namespace Go.Proofs.Ytjanphcfflahkaa.game
open Go.RowKit
open cards deal reg
set_option linter.unusedVariables false

section
variable {ops : Array Oper} {S I : World → Prop} {n0 : Nat} {obj : Obj} {fin : Act → (World → Prop) → Prop}
end

end Go.Proofs.Ytjanphcfflahkaa.game

/- RunClaims: the model's. -/
namespace Go.Proofs.Ytjanphcfflahkaa.game
open Go.RowKit
open cards deal reg
set_option linter.unusedVariables false

theorem BoxJ.set0 {w : World} {g : Nat} {x : Cd} (h : Box w g x) (a : Int) : Box (w.setCell ⟨g, 0, none⟩ (.int .i64 a)) g ⟨a, x.b, x.c, x.d⟩ := by
  unfold Box at h ⊢; rw [heap_setCell_same _ g _ _ _ _ h]; rfl
theorem BoxJ.set1 {w : World} {g : Nat} {x : Cd} (h : Box w g x) (a : Int) : Box (w.setCell ⟨g, 1, none⟩ (.int .i64 a)) g ⟨x.a, a, x.c, x.d⟩ := by
  unfold Box at h ⊢; rw [heap_setCell_same _ g _ _ _ _ h]; rfl
theorem BoxJ.set2 {w : World} {g : Nat} {x : Cd} (h : Box w g x) (a : Int) : Box (w.setCell ⟨g, 2, none⟩ (.int .i64 a)) g ⟨x.a, x.b, a, x.d⟩ := by
  unfold Box at h ⊢; rw [heap_setCell_same _ g _ _ _ _ h]; rfl
theorem BoxJ.set3 {w : World} {g : Nat} {x : Cd} (h : Box w g x) (a : Int) : Box (w.setCell ⟨g, 3, none⟩ (.int .i64 a)) g ⟨x.a, x.b, x.c, a⟩ := by
  unfold Box at h ⊢; rw [heap_setCell_same _ g _ _ _ _ h]; rfl
theorem Box.grownJ {w w1 : World} {g g2 : Nat} {x : Cd} (h : Box w g x) (hg : w.grownBy w1 (some g2)) (hne : g ≠ g2) : Box w1 g x := (hg.block g h.lt (fun e => hne (Option.some.inj e))).trans h
theorem a4_sets {w : World} {g : Nat} {x : Cd} (h : Box w g x) (y : Cd) : Box ((((w.setCell ⟨g, 0, none⟩ (.int .i64 y.a)).setCell ⟨g, 1, none⟩ (.int .i64 y.b)).setCell ⟨g, 2, none⟩ (.int .i64 y.c)).setCell ⟨g, 3, none⟩ (.int .i64 y.d)) g y ∧ w.grownBy ((((w.setCell ⟨g, 0, none⟩ (.int .i64 y.a)).setCell ⟨g, 1, none⟩ (.int .i64 y.b)).setCell ⟨g, 2, none⟩ (.int .i64 y.c)).setCell ⟨g, 3, none⟩ (.int .i64 y.d)) (some g) :=
  ⟨Box.set_ h y, (((gb_cell w g 0 _).trans (gb_cell _ g 1 _)).trans (gb_cell _ g 2 _)).trans (gb_cell _ g 3 _)⟩
theorem OwnG.topDrew {w : World} {B C : Nat} {vl vs vw : Value} {l : List Cd} {sc wr : List Int} (h : OwnG w B C vl vs vw l sc wr) (hz : C ≤ w.heap.size) : OwnG w.drew B w.drew.heap.size vl vs vw l sc wr := OwnG.top (OwnG.drew h) hz
theorem results_cell2_tmp {fn : Func} {p p2 v : Tmp} {ty ty2 : TypeId} (h : fn.results = #[.cell p ty, .cell p2 ty2, .tmp v]) (tmps : Array Value) (P : Program) (w : World) :
    (results fn tmps).run P w = ((asAddr (tmps.getD p undef)).run P w).andThen fun a w₁ => ((loadVar ty a).run P w₁).andThen fun x w₂ => ((asAddr (tmps.getD p2 undef)).run P w₂).andThen fun a2 w₃ => ((loadVar ty2 a2).run P w₃).andThen fun x2 w₄ => .ok (.tuple #[x, x2, tmps.getD v undef]) w₄ := by
  simp only [results, h]
  simp [Sem.run_bind, Result.andThen]
theorem load_a4 {w : World} {g : Nat} {c : Cd} (h : Box w g c) : (loadVar 22 ⟨g, 0, none⟩).run Try.prog w = .ok c.val w :=
  run_loadVar_row w g 22 22 #[.int .i64 c.a, .int .i64 c.b, .int .i64 c.c, .int .i64 c.d] (0, 0) _ h Try.underlying22 rfl (by kernel_rfl)
theorem res_ga4 {fn : Func} {i j y : Tmp} (hf : fn.results = #[.cell i 51, .cell j 22, .tmp y]) {tmps : Array Value} {w : World} {g g2 : Nat} {s n : Int} {v u q : Value} {c : Cd} (ht : tmps.getD i undef = .pointer (some ⟨g, 0, none⟩)) (ht2 : tmps.getD j undef = .pointer (some ⟨g2, 0, none⟩)) (h : GBox w g ⟨51, s, n, v, u, q⟩) (h2 : Box w g2 c) :
    (results fn tmps).run Try.prog w = .ok (.tuple #[gval s n v u q, c.val, tmps.getD y undef]) w := by
  have hl := load_game h
  have hl2 := load_a4 h2
  rw [results_cell2_tmp hf, ht, ht2]
  simp [asAddr, hl, hl2, Result.andThen]
noncomputable def cnts (g : Gm) (cl : List Cd) (k : Nat) : Cd := ⟨0, cnt g cl 1 k, cnt g cl 2 k, cnt g cl 3 k⟩
noncomputable def rcR (g : Gm) (cl : List Cd) : Gm × Cd × Bool := if g.ok = true ∧ cl.length ≤ 60 then (runG g cl cl.length, cnts g cl cl.length, true) else (gm0, ⟨0, 0, 0, 0⟩, false)
theorem rcR_len (g : Gm) (cl : List Cd) : (rcR g cl).1.l.length ≤ 1000 ∧ (rcR g cl).1.sc.length ≤ 1000 ∧ (rcR g cl).1.wr.length ≤ 1000 := by
  unfold rcR
  split
  · rename_i h
    have ho := runG_ok (cl := cl) (Gm.ok_iff.1 h.1) cl.length
    have h1 := ho.d.len81
    have h4 := ho.p4
    have he := ho.eq
    simp only
    have h1' : (runG g cl cl.length).l.length ≤ 81 := h1
    omega
  · exact ⟨by decide, by decide, by decide⟩

end Go.Proofs.Ytjanphcfflahkaa.game

/- WorthClaims: a region that draws its order with two calls and a number read out of what each made; the mathematics. -/
namespace Go.Proofs.Ytjanphcfflahkaa.game
open Go.RowKit
open cards deal reg
set_option linter.unusedVariables false

section
variable {P : Program} {ops : Array Oper} {Q : Exit → Act → World → Prop} {md : Region.Mode}
/-- A stronger word on the world may be kept from here on. -/
theorem any_strong {S S' : World → Prop} (h : ∀ w, S' w → S w) : ∀ (n : Nat) (l : Array Bool) (a : Act) (w : World), wpAnyH P md ops Q S' n l a w → wpAnyH P md ops Q S n l a w
  | 0, _, _, _, hh => hh
  | n + 1, _, _, _, hh => ⟨hh.1, fun i hi => wpOp_mono (fun a' w' h' => ⟨h _ h'.1, any_strong h n _ _ _ h'.2⟩) (hh.2 i hi)⟩
theorem region_any {id : Nat} {a : Act} {w : World} (S : World → Prop) (N : Nat) (hm : P.follows .mixedOrders = true) (hn : ops.size = N) (h : wpAnyH P .any ops (NoPanic Q) S N (Array.replicate ops.size false) a w.drew) : (Code.region id ops true).wp P Q a w :=
  wp_region_noPanic (wp_region_held hm (S := S) (by rw [← hn] at h; exact h))
theorem take_p (i : Nat) (d : Tmp) {S : World → Prop} {v : Value} {o : Oper} {fuel : Nat} {l : Array Bool} {a : Act} {w : World} (ho : ops[i]? = some o) (hd : o.dst = some d) (hg : o.guard = none) (hs : Region.noSelect ops = true) (hf : Region.free md ops l i = true) (hr : (Region.ready md ops l).contains i = true)
    (he : ∀ w, S w → (execOp a.eval o).run P w = .ok (.value v) w) (hS : S w) (h : wpAnyH P md ops (NoPanic Q) S fuel (l.setIfInBounds i true) (a.put (some d) v) w) : wpAnyH P md ops (NoPanic Q) S (fuel + 1) l a w :=
  wpAnyH_take ho hs hf hr (fun _ _ _ h => h) (.inl ⟨wanted_of hg, he⟩) hS (hd ▸ h)
theorem op_call (i : Nat) (d : Tmp) {o : Oper} {a : Act} {w : World} (ho : ops[i]? = some o) (hd : o.dst = some d) (hg : o.guard = none) {f : FuncId} {args : Array Value} (he : (execOp a.eval o).run P w = .ok (.enter f args) w) {K : Act → World → Prop}
    (hc : Calls P f args w (fun e w' => ∃ v, e = .returned v ∧ K (a.put (some d) v) w')) : wpOp P ops Q i K a w :=
  wpOp_upon ho hg (Upon.enter he hc) (fun v w' h => hd ▸ h)
end
theorem exec_cell {a : Act} {o : Oper} {T : TypeId} {x : Operand} {p : Addr} {v : Value} {w : World} (hop : o.op = .load T x) (hx : a.eval x = .pointer (some p)) (h : (loadVar T p).run Try.prog w = .ok v w) : (execOp a.eval o).run Try.prog w = .ok (.value v) w := by
  unfold execOp
  rw [hop]
  simp only [hx]
  simp [Instr.loadAt, Instr.sureAddr, asAddr, h, Result.andThen]

noncomputable def wcV (g : Gm) (cl : List Cd) (x : Int) : Int := (pts (runG g cl cl.length))[x.toNat]?.getD 0 - (pts g)[x.toNat]?.getD 0
noncomputable def wcR (g : Gm) (cl : List Cd) (x : Int) : Int × Bool := if (g.ok = true ∧ cl.length ≤ 60) ∧ isP g.sc.length x = true then (wcV g cl x, true) else (0, false)
end Go.Proofs.Ytjanphcfflahkaa.game

/- WorthClaims: the program's. -/
namespace Go.Proofs.Ytjanphcfflahkaa.game
open Go.RowKit
open cards deal reg
set_option linter.unusedVariables false

theorem wc_no {g : Gm} {cl : List Cd} {x : Int} (h : ¬ ((g.ok = true ∧ cl.length ≤ 60) ∧ isP g.sc.length x = true)) : wcR g cl x = (0, false) := if_neg h
theorem wc_yes {g : Gm} {cl : List Cd} {k : Nat} {a b : Int} (h : g.ok = true ∧ cl.length ≤ 60) (hp : isP g.sc.length (k : Int) = true) (ha : (pts (runG g cl cl.length))[k]? = some a) (hb : (pts g)[k]? = some b) : wcR g cl (k : Int) = (a - b, true) := by
  unfold wcR
  rw [if_pos ⟨h, hp⟩]
  unfold wcV
  rw [Int.toNat_natCast, ha, hb]
  rfl

end Go.Proofs.Ytjanphcfflahkaa.game

/- WorthClaims: the model's. -/
namespace Go.Proofs.Ytjanphcfflahkaa.game
open Go.RowKit
open cards deal reg
set_option linter.unusedVariables false

theorem runs_cons {P : Program} {ops : Array Oper} {S : World → Prop} {K : Act → World → Prop} (j : Nat) (d : Tmp) {r : List Nat} {a : Act} {w w' : World} {o : Oper} {v : Value} (ho : ops[j]? = some o) (hd : o.dst = some d) (hg : o.guard = none) (he : (execOp a.eval o).run P w = .ok (.value v) w') (hS : S w') (h : runsS P ops S K r (a.put (some d) v) w') : runsS P ops S K (j :: r) a w :=
  ⟨o, w', v, ho, hg, .inl he, hS, hd ▸ h⟩

end Go.Proofs.Ytjanphcfflahkaa.game

/- Ranks: the program's closure that compares two players. -/
namespace Go.Proofs.Ytjanphcfflahkaa.game
open Go.RowKit
open cards deal reg
set_option linter.unusedVariables false

def orI (a b c : Int) : Int := if a ≠ 0 then a else if b ≠ 0 then b else c
set_option maxRecDepth 100000 in
set_option maxHeartbeats 1000000 in
theorem or_int (a b c : Int) (g : Nat) (w : World) (h0 : w.cell? ⟨g, 0, none⟩ = some (.int .i64 a)) (h1 : w.cell? ⟨g, 1, none⟩ = some (.int .i64 b)) (h2 : w.cell? ⟨g, 2, none⟩ = some (.int .i64 c)) :
    Calls Try.prog 72 #[.slice (some ⟨g, 0, none⟩) 3 3] w fun e w' => e = .returned (.int .i64 (orI a b c)) ∧ w' = w := by
  by_cases ha : a = 0
  · by_cases hb : b = 0
    · by_cases hc : c = 0
      · subst ha hb hc
        go_enter Try.func72, Try.ntmps72
        go_wp2
        refine wp_loop_rounds 4 ?_
        rw [rounds_succ]
        go_wp2
        rw [rounds_succ]
        go_wp2
        rw [rounds_succ]
        go_wp2
        rw [rounds_succ]
        go_wp2
        go_ret
        exact ⟨rfl, rfl⟩
      · have HT := Lib.hid (show c = orI a b c by rw [orI, if_neg (by simp [ha]), if_neg (by simp [hb])])
        have hq : (c != 0) = true := by simp [hc]
        subst ha hb
        clear hc
        go_enter Try.func72, Try.ntmps72
        go_wp2
        refine wp_loop_rounds 3 ?_
        rw [rounds_succ]
        go_wp2
        rw [rounds_succ]
        go_wp2
        rw [rounds_succ]
        go_wp2
        go_ret
        exact ⟨ret_int HT.out, rfl⟩
    · have HT := Lib.hid (show b = orI a b c by rw [orI, if_neg (by simp [ha]), if_pos hb])
      have hq : (b != 0) = true := by simp [hb]
      subst ha
      clear hb
      go_enter Try.func72, Try.ntmps72
      go_wp2
      refine wp_loop_rounds 2 ?_
      rw [rounds_succ]
      go_wp2
      rw [rounds_succ]
      go_wp2
      go_ret
      exact ⟨ret_int HT.out, rfl⟩
  · have HT := Lib.hid (show a = orI a b c by rw [orI, if_pos ha])
    have hq : (a != 0) = true := by simp [ha]
    clear ha
    go_enter Try.func72, Try.ntmps72
    go_wp2
    refine wp_loop_rounds 1 ?_
    rw [rounds_succ]
    go_wp2
    go_ret
    exact ⟨ret_int HT.out, rfl⟩
/-- Worlds that come of a world by draws and new blocks. -/
def SG (w w' : World) : Prop := ∃ q os, w' = Go.Sort.grow (w.drewN q) os
theorem SG.cell {w w' : World} (h : SG w w') {a : Addr} {v : Value} (hc : w.cell? a = some v) : w'.cell? a = some v := by
  obtain ⟨q, os, rfl⟩ := h
  rw [Go.Sort.cell?_grow _ _ _ (by exact block_lt_of_cell hc)]
  exact hc
theorem SG.drew (w : World) : SG w w.drew := ⟨1, #[], by rw [Go.Sort.grow_empty]; rfl⟩
theorem SG.alloc {w w' : World} (h : SG w w') (o : Obj) : SG w (w'.alloc o) := by
  obtain ⟨q, os, rfl⟩ := h
  exact ⟨q, os ++ #[o], by rw [Go.Sort.alloc_eq_grow, Go.Sort.grow_grow]⟩
def cfR (px py wx wy : Int) (x y : Nat) : Int := orI (cmpI py px) (cmpI wx wy) (cmpI (x : Int) y)
theorem cfR_neg {px py wx wy : Int} {x y : Nat} : cfR px py wx wy x y < 0 ↔ py < px ∨ (px = py ∧ (wx < wy ∨ (wx = wy ∧ x < y))) := by
  unfold cfR orI
  by_cases h1 : cmpI py px = 0
  · have e1 := cmpI_zero.1 h1
    rw [if_neg (by simp [h1])]
    by_cases h2 : cmpI wx wy = 0
    · have e2 := cmpI_zero.1 h2
      rw [if_neg (by simp [h2]), cmpI_neg]
      omega
    · have e2 : ¬ wx = wy := fun e => h2 (cmpI_zero.2 e)
      rw [if_pos h2, cmpI_neg]
      omega
  · have e1 : ¬ py = px := fun e => h1 (cmpI_zero.2 e)
    rw [if_pos h1, cmpI_neg]
    omega
theorem exec_field2 {a : Act} {o : Oper} {p : Operand} {g : Nat} (ho : o.op = .fieldAddr 51 p 2) (hp : a.eval p = .pointer (some ⟨g, 0, none⟩)) (w : World) :
    (execOp a.eval o).run Try.prog w = .ok (.value (.pointer (some ⟨g, 4, none⟩))) w := by
  unfold execOp
  rw [ho]
  simp only [hp]
  go_simp
theorem exec_three {x y z : Int} {a : Act} {o : Oper} {p q r : Tmp} (ho : o.op = .buildSlice 43 3 #[(0, .tmp p), (1, .tmp q), (2, .tmp r)]) (hp : a.tmps[p]?.getD undef = .int .i64 x) (hq : a.tmps[q]?.getD undef = .int .i64 y) (hr : a.tmps[r]?.getD undef = .int .i64 z) (w : World) :
    (execOp a.eval o).run Try.prog w = .ok (.value (.slice (some ⟨w.heap.size, 0, none⟩) 3 3)) (w.alloc (.cells #[.int .i64 x, .int .i64 y, .int .i64 z] 3)) := by
  unfold execOp
  rw [ho]
  go_simp

section
variable {P : Program} {ops : Array Oper} {Q : Exit → Act → World → Prop} {md : Region.Mode}
theorem op_valR (i : Nat) (d : Tmp) {o : Oper} {a : Act} {w w' : World} {v : Value} (ho : ops[i]? = some o) (hd : o.dst = some d) (hg : o.guard = none) (he : (execOp a.eval o).run P w = .ok (.value v) w') {K : Act → World → Prop}
    (hc : K (a.put (some d) v) w') : wpOp P ops Q i K a w := by
  have hu : Upon P (fun v w' => K (a.put (some d) v) w') ((execOp a.eval o).run P w) := by rw [he]; exact hc
  exact wpOp_upon ho hg hu (fun v w' h => hd ▸ h)
end
set_option maxRecDepth 100000 in
set_option maxHeartbeats 8000000 in
theorem rank_cmp (x y n : Nat) (P W : List Int) (pp pw : Option Addr) (cp cw b4 b1 : Nat) (px py wx wy : Int) (w : World) (hx : x < n) (hy : y < n) (hP : P.length = n) (hW : W.length = n) (hn : n ≤ 1000)
    (hpx : P[x]? = some px) (hpy : P[y]? = some py) (hwx : W[x]? = some wx) (hwy : W[y]? = some wy)
    (c4 : w.cell? ⟨b4, 0, none⟩ = some (.slice pp n cp)) (c1 : w.cell? ⟨b1, 4, none⟩ = some (.slice pw n cw)) (hrP : Rd w pp (ints P)) (hrW : Rd w pw (ints W)) :
    Calls Try.prog 71 #[.int .i64 x, .int .i64 y, .pointer (some ⟨b4, 0, none⟩), .pointer (some ⟨b1, 0, none⟩)] w fun e w' => e = .returned (.int .i64 (cfR px py wx wy x y)) ∧ ∃ q os, w' = Go.Sort.grow (w.drewN q) os := by
  obtain ⟨bp, op, qx, rfl, -, hqx, kx⟩ := hrP.int (k := x) (by omega)
  obtain ⟨bp', op', qy, e', -, hqy, ky⟩ := hrP.int (k := y) (by omega)
  obtain ⟨bw, ow, rx, rfl, -, hrx, mx⟩ := hrW.int (k := x) (by omega)
  obtain ⟨bw', ow', ry, e2', -, hry, my⟩ := hrW.int (k := y) (by omega)
  cases e'
  cases e2'
  rw [hpx] at hqx; cases hqx
  rw [hpy] at hqy; cases hqy
  rw [hwx] at hrx; cases hrx
  rw [hwy] at hry; cases hry
  have HC4 := Lib.hid c4
  have HC1 := Lib.hid c1
  have HX := Lib.hid kx
  have HY := Lib.hid ky
  have HMx := Lib.hid mx
  have HMy := Lib.hid my
  clear c4 c1 kx ky mx my hrP hrW hpx hpy hwx hwy
  obtain ⟨cx, hcx⟩ : ∃ cx, cmpI py px = cx := ⟨_, rfl⟩
  obtain ⟨cy, hcy⟩ : ∃ cy, cmpI wx wy = cy := ⟨_, rfl⟩
  obtain ⟨cz, hcz⟩ : ∃ cz, cmpI (x : Int) y = cz := ⟨_, rfl⟩
  have H1 := Lib.hid (fun w => cmp_int py px w)
  have H2 := Lib.hid (fun w => cmp_int wx wy w)
  have H3 := Lib.hid (fun w => cmp_int (x : Int) y w)
  rw [hcx] at H1
  rw [hcy] at H2
  rw [hcz] at H3
  have HT := Lib.hid (show cfR px py wx wy x y = orI cx cy cz by unfold cfR; rw [hcx, hcy, hcz])
  rw [HT.out]
  clear hcx hcy hcz
  go_enter Try.func71, Try.ntmps71
  go_upto_region 1 with fail
  refine region_any (SG w) 26 (by kernel_rfl) rfl ?_
  refine take_p 0 7 (v := .slice (some ⟨bp, op, none⟩) n cp) rfl rfl rfl (by kernel_rfl) (by kernel_rfl) (by kernel_rfl) (fun w' h => exec_cell rfl (by kernel_rfl) (load_slI (h.cell HC4.out))) (SG.drew w) ?_
  refine take_p 1 8 (v := .int .i64 y) rfl rfl rfl (by kernel_rfl) (by kernel_rfl) (by kernel_rfl) (fun w' h => by kernel_rfl) (SG.drew w) ?_
  refine take_p 2 9 (v := .pointer (some ⟨bp, op + y, none⟩)) rfl rfl rfl (by kernel_rfl) (by kernel_rfl) (by kernel_rfl) (fun w' h => exec_indexI (n := n) (cp := cp) hy rfl (by kernel_rfl) (by kernel_rfl) w') (SG.drew w) ?_
  refine take_p 3 10 (v := .int .i64 py) rfl rfl rfl (by kernel_rfl) (by kernel_rfl) (by kernel_rfl) (fun w' h => exec_cell rfl (by kernel_rfl) (load_int (h.cell HY.out))) (SG.drew w) ?_
  refine take_p 4 11 (v := .slice (some ⟨bp, op, none⟩) n cp) rfl rfl rfl (by kernel_rfl) (by kernel_rfl) (by kernel_rfl) (fun w' h => exec_cell rfl (by kernel_rfl) (load_slI (h.cell HC4.out))) (SG.drew w) ?_
  refine take_p 5 12 (v := .int .i64 x) rfl rfl rfl (by kernel_rfl) (by kernel_rfl) (by kernel_rfl) (fun w' h => by kernel_rfl) (SG.drew w) ?_
  refine take_p 6 13 (v := .pointer (some ⟨bp, op + x, none⟩)) rfl rfl rfl (by kernel_rfl) (by kernel_rfl) (by kernel_rfl) (fun w' h => exec_indexI (n := n) (cp := cp) hx rfl (by kernel_rfl) (by kernel_rfl) w') (SG.drew w) ?_
  refine take_p 7 14 (v := .int .i64 px) rfl rfl rfl (by kernel_rfl) (by kernel_rfl) (by kernel_rfl) (fun w' h => exec_cell rfl (by kernel_rfl) (load_int (h.cell HX.out))) (SG.drew w) ?_
  refine take_p 9 16 (v := .pointer (some ⟨b1, 4, none⟩)) rfl rfl rfl (by kernel_rfl) (by kernel_rfl) (by kernel_rfl) (fun w' h => exec_field2 rfl (by kernel_rfl) w') (SG.drew w) ?_
  refine take_p 10 17 (v := .slice (some ⟨bw, ow, none⟩) n cw) rfl rfl rfl (by kernel_rfl) (by kernel_rfl) (by kernel_rfl) (fun w' h => exec_cell rfl (by kernel_rfl) (load_slI (h.cell HC1.out))) (SG.drew w) ?_
  refine take_p 11 18 (v := .int .i64 x) rfl rfl rfl (by kernel_rfl) (by kernel_rfl) (by kernel_rfl) (fun w' h => by kernel_rfl) (SG.drew w) ?_
  refine take_p 12 19 (v := .pointer (some ⟨bw, ow + x, none⟩)) rfl rfl rfl (by kernel_rfl) (by kernel_rfl) (by kernel_rfl) (fun w' h => exec_indexI (n := n) (cp := cw) hx rfl (by kernel_rfl) (by kernel_rfl) w') (SG.drew w) ?_
  refine take_p 13 20 (v := .int .i64 wx) rfl rfl rfl (by kernel_rfl) (by kernel_rfl) (by kernel_rfl) (fun w' h => exec_cell rfl (by kernel_rfl) (load_int (h.cell HMx.out))) (SG.drew w) ?_
  refine take_p 14 21 (v := .pointer (some ⟨b1, 4, none⟩)) rfl rfl rfl (by kernel_rfl) (by kernel_rfl) (by kernel_rfl) (fun w' h => exec_field2 rfl (by kernel_rfl) w') (SG.drew w) ?_
  refine take_p 15 22 (v := .slice (some ⟨bw, ow, none⟩) n cw) rfl rfl rfl (by kernel_rfl) (by kernel_rfl) (by kernel_rfl) (fun w' h => exec_cell rfl (by kernel_rfl) (load_slI (h.cell HC1.out))) (SG.drew w) ?_
  refine take_p 16 23 (v := .int .i64 y) rfl rfl rfl (by kernel_rfl) (by kernel_rfl) (by kernel_rfl) (fun w' h => by kernel_rfl) (SG.drew w) ?_
  refine take_p 17 24 (v := .pointer (some ⟨bw, ow + y, none⟩)) rfl rfl rfl (by kernel_rfl) (by kernel_rfl) (by kernel_rfl) (fun w' h => exec_indexI (n := n) (cp := cw) hy rfl (by kernel_rfl) (by kernel_rfl) w') (SG.drew w) ?_
  refine take_p 18 25 (v := .int .i64 wy) rfl rfl rfl (by kernel_rfl) (by kernel_rfl) (by kernel_rfl) (fun w' h => exec_cell rfl (by kernel_rfl) (load_int (h.cell HMy.out))) (SG.drew w) ?_
  refine take_p 20 27 (v := .int .i64 x) rfl rfl rfl (by kernel_rfl) (by kernel_rfl) (by kernel_rfl) (fun w' h => by kernel_rfl) (SG.drew w) ?_
  refine take_p 21 28 (v := .int .i64 y) rfl rfl rfl (by kernel_rfl) (by kernel_rfl) (by kernel_rfl) (fun w' h => by kernel_rfl) (SG.drew w) ?_
  refine wpAnyH_all (rs := [8]) (by kernel_rfl) (by decide) (fun j hj => ?_)
  obtain rfl : j = 8 := by simpa using hj
  refine op_call 8 15 rfl rfl rfl (f := 73) (args := #[.int .i64 py, .int .i64 px]) (by kernel_rfl) ?_
  refine (H1.out _).mono ?_
  rintro e w5 ⟨rfl, rfl⟩
  refine ⟨_, rfl, SG.drew w, ?_⟩
  refine wpAnyH_all (rs := [19]) (by kernel_rfl) (by decide) (fun j hj => ?_)
  obtain rfl : j = 19 := by simpa using hj
  refine op_call 19 26 rfl rfl rfl (f := 73) (args := #[.int .i64 wx, .int .i64 wy]) (by kernel_rfl) ?_
  refine (H2.out _).mono ?_
  rintro e w5 ⟨rfl, rfl⟩
  refine ⟨_, rfl, SG.drew w, ?_⟩
  refine wpAnyH_all (rs := [22]) (by kernel_rfl) (by decide) (fun j hj => ?_)
  obtain rfl : j = 22 := by simpa using hj
  refine op_call 22 29 rfl rfl rfl (f := 73) (args := #[.int .i64 x, .int .i64 y]) (by kernel_rfl) ?_
  refine (H3.out _).mono ?_
  rintro e w5 ⟨rfl, rfl⟩
  refine ⟨_, rfl, SG.drew w, ?_⟩
  refine wpAnyH_all (rs := [23]) (by kernel_rfl) (by decide) (fun j hj => ?_)
  obtain rfl : j = 23 := by simpa using hj
  refine op_valR 23 30 rfl rfl rfl (exec_three (x := cx) (y := cy) (z := cz) rfl (by kernel_rfl) (by kernel_rfl) (by kernel_rfl) w.drew) ⟨SG.alloc (SG.drew w) _, ?_⟩
  refine wpAnyH_all (rs := [24]) (by kernel_rfl) (by decide) (fun j hj => ?_)
  obtain rfl : j = 24 := by simpa using hj
  refine op_call 24 31 rfl rfl rfl (f := 72) (args := #[.slice (some ⟨w.drew.heap.size, 0, none⟩) 3 3]) (by kernel_rfl) ?_
  refine (or_int cx cy cz w.drew.heap.size (w.drew.alloc (.cells #[.int .i64 cx, .int .i64 cy, .int .i64 cz] 3)) (by rw [World.cell?_alloc_at _ _ _ _ rfl]; rfl) (by rw [World.cell?_alloc_at _ _ _ _ rfl]; rfl) (by rw [World.cell?_alloc_at _ _ _ _ rfl]; rfl)).mono ?_
  rintro e w5 ⟨rfl, rfl⟩
  refine ⟨_, rfl, SG.alloc (SG.drew w) _, ?_⟩
  refine seq_of [25] _ _ _ (by kernel_rfl) (SG.alloc (SG.drew w) _) (runs_cons 25 6 (w' := w.drew.alloc (.cells #[.int .i64 cx, .int .i64 cy, .int .i64 cz] 3)) (v := .int .i64 (orI cx cy cz)) rfl rfl rfl (by kernel_rfl) (SG.alloc (SG.drew w) _) (NoPanic.normal ?_))
  simp only [Act.put, List.setIfInBounds_toArray, List.set_cons_zero, List.set_cons_succ]
  go_wp2_with fail
  go_ret
  exact ⟨rfl, SG.alloc (SG.drew w) _⟩
end Go.Proofs.Ytjanphcfflahkaa.game

/- The library's sort by a comparing function, laid at this dump: the numbers of the functions and types that its contract names. -/
namespace Go.Proofs
open Go.Shelf
def Try.sortI_ren : Go.Shelf.Ren := ⟨fun | 6 => 70 | 15 => 108 | 14 => 107 | 28 => 143 | 29 => 144 | 20 => 135 | 21 => 136 | 22 => 137 | 23 => 138 | 24 => 139 | 25 => 140 | 26 => 141 | 27 => 142 | 46 => 158 | 47 => 159 | 48 => 160 | 49 => 161 | 50 => 162 | 57 => 174 | n => n, fun | 22 => 43 | 24 => 3 | 25 => 77 | 3 => 3 | 39 => 116 | 0 => 0 | 53 => 144 | 55 => 146 | 4 => 4 | 46 => 138 | 45 => 137 | 50 => 27 | 5 => 5 | 9 => 9 | 66 => 153 | 70 => 157 | 76 => 166 | 77 => 167 | n => n, fun | n => n⟩
theorem Try.sortI : Go.Proofs.SlLaysF.n6 Try.prog Try.sortI_ren := {
  mixed := by kernel_rfl
  f6 := ⟨Try.f70.name, by decide, Try.func70.trans (congrArg some (by kernel_rfl))⟩
  f14 := ⟨Try.f107.name, by decide, Try.func107.trans (congrArg some (by kernel_rfl))⟩
  f15 := Try.func108.trans (congrArg some (by kernel_rfl))
  f20 := ⟨Try.f135.name, by decide, Try.func135.trans (congrArg some (by kernel_rfl))⟩
  f21 := ⟨Try.f136.name, by decide, Try.func136.trans (congrArg some (by kernel_rfl))⟩
  f22 := ⟨Try.f137.name, by decide, Try.func137.trans (congrArg some (by kernel_rfl))⟩
  f23 := ⟨Try.f138.name, by decide, Try.func138.trans (congrArg some (by kernel_rfl))⟩
  f24 := ⟨Try.f139.name, by decide, Try.func139.trans (congrArg some (by kernel_rfl))⟩
  f25 := ⟨Try.f140.name, by decide, Try.func140.trans (congrArg some (by kernel_rfl))⟩
  f26 := ⟨Try.f141.name, by decide, Try.func141.trans (congrArg some (by kernel_rfl))⟩
  f27 := ⟨Try.f142.name, by decide, Try.func142.trans (congrArg some (by kernel_rfl))⟩
  f28 := Try.func143.trans (congrArg some (by kernel_rfl))
  f29 := Try.func144.trans (congrArg some (by kernel_rfl))
  f46 := ⟨Try.f158.name, by decide, Try.func158.trans (congrArg some (by kernel_rfl))⟩
  f47 := Try.func159.trans (congrArg some (by kernel_rfl))
  f48 := Try.func160.trans (congrArg some (by kernel_rfl))
  f49 := ⟨Try.f161.name, by decide, Try.func161.trans (congrArg some (by kernel_rfl))⟩
  f50 := ⟨Try.f162.name, by decide, Try.func162.trans (congrArg some (by kernel_rfl))⟩
  f57 := ⟨Try.f174.name, by decide, Try.func174.trans (congrArg some (by kernel_rfl))⟩
  t0 := Try.underlying0
  a0 := Try.isAgg0
  z0 := Try.sizeOf0
  v0 := Try.zeroValue0
  t3 := Try.underlying3
  a3 := Try.isAgg3
  z3 := Try.sizeOf3
  v3 := Try.zeroValue3
  t4 := Try.underlying4
  a4 := Try.isAgg4
  z4 := Try.sizeOf4
  v4 := Try.zeroValue4
  t5 := Try.underlying5
  a5 := Try.isAgg5
  z5 := Try.sizeOf5
  v5 := Try.zeroValue5
  t9 := Try.underlying9
  a9 := Try.isAgg9
  z9 := Try.sizeOf9
  v9 := Try.zeroValue9
  t22 := Try.underlying43
  a22 := Try.isAgg43
  z22 := Try.sizeOf43
  v22 := Try.zeroValue43
  a24 := Try.isAgg3
  z24 := Try.sizeOf3
  t25 := Try.underlying77
  a25 := Try.isAgg77
  z25 := Try.sizeOf77
  v25 := Try.zeroValue77
  t39 := Try.underlying116
  a39 := Try.isAgg116
  z39 := Try.sizeOf116
  v39 := Try.zeroValue116
  t45 := Try.underlying137
  a45 := Try.isAgg137
  z45 := Try.sizeOf137
  v45 := Try.zeroValue137
  t46 := Try.underlying138
  a46 := Try.isAgg138
  z46 := Try.sizeOf138
  v46 := Try.zeroValue138
  t50 := Try.underlying27
  a50 := Try.isAgg27
  z50 := Try.sizeOf27
  v50 := Try.zeroValue27
  t53 := Try.underlying144
  a53 := Try.isAgg144
  z53 := Try.sizeOf144
  v53 := Try.zeroValue144
  t55 := Try.underlying146
  a55 := Try.isAgg146
  z55 := Try.sizeOf146
  v55 := Try.zeroValue146
  t66 := Try.underlying153
  a66 := Try.isAgg153
  z66 := Try.sizeOf153
  v66 := Try.zeroValue153
  t70 := Try.underlying157
  a70 := Try.isAgg157
  z70 := Try.sizeOf157
  v70 := Try.zeroValue157
  t76 := Try.underlying166
  a76 := Try.isAgg166
  z76 := Try.sizeOf166
  v76 := Try.zeroValue166
  t77 := Try.underlying167
  a77 := Try.isAgg167
  z77 := Try.sizeOf167
  v77 := Try.zeroValue167 }
end Go.Proofs

