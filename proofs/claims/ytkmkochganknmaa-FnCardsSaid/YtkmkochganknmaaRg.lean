/- A region that draws its order, whose calls come one behind the other, with one new block among its operations into which the last operation stores: ONE walk serves all its orders. -/
import Derived.Test.YtkmkochganknmaaCd
import Derived.Deep.MidRow
import Derived.OrdersHeld
import Derived.Deep.RegionHeld3
namespace Go.Proofs.Ytkmkochganknmaa.reg
open Go.RowKit
set_option linter.unusedVariables false

section
variable {P : Program} {md : Region.Mode} {ops : Array Oper} {Q : Exit → Act → World → Prop}

/-- What an operation that is carried out leaves: its value, and the world. -/
def Upon (P : Program) (R : Value → World → Prop) : Result Next → Prop
  | .ok (.value v) w' => R v w'
  | .ok (.enter f args) w' => Calls P f args w' (fun e w'' => ∃ v, e = .returned v ∧ R v w'')
  | _ => False
/-- What is known of the world holds also with the new block. -/
structure Clo (n0 : Nat) (obj : Obj) (S I : World → Prop) : Prop where
  held : ∀ w, I w → S w
  big : ∀ w, I w → n0 ≤ w.heap.size
  grow : ∀ w, I w → I (w.alloc obj)
def ptr (g : Nat) : Value := .pointer (some ⟨g, 0, none⟩)
def chainA (P : Program) (ops : Array Oper) (S : World → Prop) (n0 : Nat) (obj : Obj) (fin : Act → (World → Prop) → Prop) : List (Bool × Nat) → Act → (World → Prop) → Prop
  | [], a, I => fin a I
  | (true, i) :: r, a, I => ∃ o v, ops[i]? = some o ∧ YieldsIf P ops S o v a ∧ chainA P ops S n0 obj fin r (a.put o.dst v) I
  | (false, i) :: r, a, I => ∃ o, ops[i]? = some o ∧ o.guard = none ∧ ∀ w, I w → Upon P (fun v w' => Below w.heap.size w w' ∧ ∃ I', Clo n0 obj S I' ∧ I' w' ∧ chainA P ops S n0 obj fin r (a.put o.dst v) I') ((execOp a.eval o).run P w)
/-- The end of a region with a new block. -/
def atEnd (n0 : Nat) (obj : Obj) (f : Act → World → Nat → Prop) (a : Act) (I : World → Prop) : Prop := ∀ w g, I w → n0 ≤ g → w.heap[g]? = some obj → f a w g
/-- The end of a region without one. -/
def atEndP (f : Act → World → Prop) (a : Act) (I : World → Prop) : Prop := ∀ w, I w → f a w
def apartAt (ops : Array Oper) (oa : Oper) (i : Nat) : Bool := match ops[i]? with
  | some o => oa.apart ops o
  | none => false
theorem wanted_of {o : Oper} {a : Act} (hg : o.guard = none) : Region.wanted o (yielded ops a.tmps) = true := by
  unfold Region.wanted; rw [hg]
theorem wpOp_upon {i : Nat} {o : Oper} {a : Act} {w : World} {R : Value → World → Prop} {K : Act → World → Prop} (hi : ops[i]? = some o) (hg : o.guard = none)
    (h : Upon P R ((execOp a.eval o).run P w)) (hK : ∀ v w', R v w' → K (a.put o.dst v) w') : wpOp P ops Q i K a w := by
  unfold wpOp
  simp only [hi, wanted_of hg, if_true]
  refine .inl ?_
  unfold Oper.wp
  generalize (execOp a.eval o).run P w = r at h
  cases r with
  | ok n w' =>
    cases n <;> simp only [Upon] at h <;> simp only [Oper.upon]
    case value v => exact hK _ _ h
    case enter f args => exact h.mono fun e w'' ⟨v, he, hr⟩ => by subst he; exact hK _ _ hr
  | halt x w' => simp only [Upon] at h

/-- What is left comes up one by one. -/
def seqOk (md : Region.Mode) (ops : Array Oper) : List Nat → Array Bool → Bool
  | [], l => Region.ready md ops l == []
  | j :: r, l => (Region.ready md ops l == [j]) && seqOk md ops r (l.setIfInBounds j true)
/-- What is kept in variables at the end: number j of the region keeps slot u in slot d. -/
def assignOf (o : Oper) : Option (Tmp × Tmp) := match o.op, o.guard, o.dst with
  | .assign (.tmp u), none, some d => some (d, u)
  | _, _, _ => none
theorem assignOf_some {o : Oper} {d u : Tmp} (h : assignOf o = some (d, u)) : o.op = .assign (.tmp u) ∧ o.guard = none ∧ o.dst = some d := by
  unfold assignOf at h
  split at h
  · rename_i h1 h2 h3; cases h; exact ⟨h1, h2, h3⟩
  · cases h
def assigns (ops : Array Oper) : List (Nat × Tmp × Tmp) → Bool
  | [] => true
  | (j, d, u) :: r => ((ops[j]?).bind assignOf == some (d, u)) && assigns ops r
def runsTo : List (Nat × Tmp × Tmp) → Act → Act → Prop
  | [], a, a' => a' = a
  | (j, d, u) :: r, a, a' => ∃ v, a.eval (.tmp u) = v ∧ runsTo r (a.put (some d) v) a'
theorem tail_of {S : World → Prop} : ∀ (ts : List (Nat × Tmp × Tmp)) (l : Array Bool) (a a' : Act) (w : World), seqOk md ops (ts.map (·.1)) l = true → assigns ops ts = true → S w → runsTo ts a a' → Q .normal a' w → wpAnyH P md ops Q S ts.length l a w
  | [], l, a, a', w, hok, _, _, hr, h => by subst hr; exact wpAnyH_done (by simpa [seqOk] using hok) h 0
  | (j, d, u) :: r, l, a, a', w, hok, has, hS, hr, h => by
    simp only [seqOk, List.map_cons, Bool.and_eq_true, beq_iff_eq] at hok
    simp only [assigns, Bool.and_eq_true, beq_iff_eq] at has
    refine wpAnyH_all hok.1 (by simp) fun i hi => ?_
    obtain rfl : i = j := by simpa using hi
    obtain ⟨h1, h2⟩ := has
    cases ho : ops[i]? with
    | none => rw [ho] at h1; cases h1
    | some o =>
      rw [ho] at h1
      change assignOf o = some (d, u) at h1
      obtain ⟨hop, hg, hd⟩ := assignOf_some h1
      obtain ⟨v, hv, hr⟩ := hr
      refine wpOp_upon (R := fun v' w' => v' = v ∧ w' = w) ho hg (by unfold execOp; rw [hop]; exact ⟨hv, rfl⟩) ?_
      rintro v' w' ⟨rfl, rfl⟩
      rw [hd]
      exact ⟨hS, tail_of r _ _ _ _ hok.2 h2 hS hr h⟩
def chainOk (md : Region.Mode) (ops : Array Oper) (oa : Oper) (i0 s : Nat) (ts : List (Nat × Tmp × Tmp)) : List (Bool × Nat) → Array Bool → Bool
  | [], l => (Region.ready md ops l == [i0]) && (Region.ready md ops (l.setIfInBounds i0 true) == [s]) && seqOk md ops (ts.map (·.1)) ((l.setIfInBounds i0 true).setIfInBounds s true)
  | (true, i) :: r, l => Region.free md ops l i && (Region.ready md ops l).contains i && Region.free md ops (l.setIfInBounds i0 true) i && (Region.ready md ops (l.setIfInBounds i0 true)).contains i && apartAt ops oa i && (i != i0) && chainOk md ops oa i0 s ts r (l.setIfInBounds i true)
  | (false, i) :: r, l => ((Region.ready md ops l == [i]) || (Region.ready md ops l == [i, i0]) || (Region.ready md ops l == [i0, i])) && (Region.ready md ops (l.setIfInBounds i0 true) == [i]) && apartAt ops oa i && (i != i0) && chainOk md ops oa i0 s ts r (l.setIfInBounds i true)

variable {S : World → Prop} {n0 : Nat} {obj : Obj} {fin : Act → World → Nat → Prop} {oa : Oper} {i0 s d0 : Nat} {ts : List (Nat × Tmp × Tmp)}

theorem done_of (hsel : Region.noSelect ops = true) (hQ : ∀ c (d : Option Tmp) v a w, Q (.panic c) (a.put d v) w → Q (.panic c) a w) (hd : oa.dst = some d0)
    (ha0 : ops[i0]? = some oa) (hs : ∃ os, ops[s]? = some os ∧ os.guard = none)
    (has : assigns ops ts = true) (hfin : ∀ a w g, fin a w g → wpOp P ops Q s (fun a' w' => S w' ∧ ∃ a'', runsTo ts a' a'' ∧ Q .normal a'' w') (a.put (some d0) (ptr g)) w) :
    ∀ (r : List (Bool × Nat)) (l : Array Bool) (a : Act) (I : World → Prop) (w : World) (g : Nat), chainOk md ops oa i0 s ts r l = true → Clo n0 obj S I → I w → n0 ≤ g → w.heap[g]? = some obj →
      chainA P ops S n0 obj (atEnd n0 obj fin) r a I → wpAnyH P md ops Q S (r.length + ts.length + 1) (l.setIfInBounds i0 true) (a.put (some d0) (ptr g)) w
  | [], l, a, I, w, g, hok, hc, hI, hg, hb, h => by
    simp only [chainOk, Bool.and_eq_true, beq_iff_eq] at hok
    refine wpAnyH_all hok.1.2 (by simp) fun i hi => ?_
    obtain rfl : i = s := by simpa using hi
    simp only [List.length_nil, Nat.zero_add]
    exact wpOp_mono (fun a' w' ⟨h1, a'', h2, h3⟩ => ⟨h1, tail_of ts _ _ _ _ hok.2 has h1 h2 h3⟩) (hfin _ _ _ (h w g hI hg hb))
  | (true, i) :: r, l, a, I, w, g, hok, hc, hI, hg, hb, h => by
    simp only [chainOk, Bool.and_eq_true] at hok
    obtain ⟨⟨⟨⟨⟨⟨h1, h2⟩, h3⟩, h4⟩, h5⟩, h6⟩, h7⟩ := hok
    obtain ⟨o, v, ho, hy, hr⟩ := h
    have hap : oa.apart ops o = true := by unfold apartAt at h5; rw [ho] at h5; exact h5
    obtain ⟨p1, p2, p3⟩ := Oper.apart_spec hap
    have hne : i ≠ i0 := by simpa using h6
    rw [List.length_cons, show r.length + 1 + ts.length + 1 = (r.length + ts.length + 1) + 1 by omega]
    refine wpAnyH_take (v := v) ho hsel h3 h4 (fun c a w => hQ c _ _ a w) (hy.of_same (execOp_put o (Region.noSelect_spec hsel i o · · ho) a (some d0) (ptr g) (fun d e => p1 d (hd.trans e))) (wanted_put o a (some d0) (ptr g) (fun d e => p1 d (hd.trans e)))) (hc.held _ hI) ?_
    rw [Array.setIfInBounds_comm _ _ (Ne.symm hne), Act.put_comm a (x := some d0) (y := o.dst) (ptr g) v (fun d e => p2 d (hd.trans e))]
    exact done_of hsel hQ hd ha0 hs has hfin r _ _ I w g h7 hc hI hg hb hr
  | (false, i) :: r, l, a, I, w, g, hok, hc, hI, hg, hb, h => by
    simp only [chainOk, Bool.and_eq_true, beq_iff_eq] at hok
    obtain ⟨⟨⟨⟨h1, h2⟩, h5⟩, h6⟩, h7⟩ := hok
    obtain ⟨o, ho, hgd, hr⟩ := h
    have hap : oa.apart ops o = true := by unfold apartAt at h5; rw [ho] at h5; exact h5
    obtain ⟨p1, p2, p3⟩ := Oper.apart_spec hap
    have hne : i ≠ i0 := by simpa using h6
    rw [List.length_cons, show r.length + 1 + ts.length + 1 = (r.length + ts.length + 1) + 1 by omega]
    refine wpAnyH_all h2 (by simp) fun j hj => ?_
    obtain rfl : j = i := by simpa using hj
    refine wpOp_upon (R := fun v w' => Below w.heap.size w w' ∧ ∃ I', Clo n0 obj S I' ∧ I' w' ∧ chainA P ops S n0 obj (atEnd n0 obj fin) r (a.put o.dst v) I') ho hgd (by rw [execOp_put o (Region.noSelect_spec hsel _ o · · ho) a (some d0) (ptr g) (fun d e => p1 d (hd.trans e))]; exact hr w hI) fun v w' ⟨hbw, I', hc', hI', hr'⟩ => ?_
    refine ⟨hc'.held _ hI', ?_⟩
    rw [Array.setIfInBounds_comm _ _ (Ne.symm hne), Act.put_comm a (x := some d0) (y := o.dst) (ptr g) v (fun d e => p2 d (hd.trans e))]
    have hlt : g < w.heap.size := by
      rcases Nat.lt_or_ge g w.heap.size with h1 | h1
      · exact h1
      · rw [Array.getElem?_eq_none h1] at hb; cases hb
    exact done_of hsel hQ hd ha0 hs has hfin r _ _ I' w' g h7 hc' hI' hg ((hbw.block g hlt).trans hb) hr'

theorem yet_of (hsel : Region.noSelect ops = true) (hQ : ∀ c (d : Option Tmp) v a w, Q (.panic c) (a.put d v) w → Q (.panic c) a w) (hd : oa.dst = some d0)
    (ha0 : ops[i0]? = some oa) (hs : ∃ os, ops[s]? = some os ∧ os.guard = none)
    (has : assigns ops ts = true) (hfin : ∀ a w g, fin a w g → wpOp P ops Q s (fun a' w' => S w' ∧ ∃ a'', runsTo ts a' a'' ∧ Q .normal a'' w') (a.put (some d0) (ptr g)) w)
    (hga : oa.guard = none) (hal : ∀ (a : Act) (w : World), (execOp a.eval oa).run P w = .ok (.value (ptr w.heap.size)) (w.alloc obj)) :
    ∀ (r : List (Bool × Nat)) (l : Array Bool) (a : Act) (I : World → Prop) (w : World), chainOk md ops oa i0 s ts r l = true → Clo n0 obj S I → I w →
      chainA P ops S n0 obj (atEnd n0 obj fin) r a I → wpAnyH P md ops Q S (r.length + ts.length + 1 + 1) l a w := by
  have al : ∀ (r : List (Bool × Nat)) (l : Array Bool) (a : Act) (I : World → Prop) (w : World), chainOk md ops oa i0 s ts r l = true → Clo n0 obj S I → I w →
      chainA P ops S n0 obj (atEnd n0 obj fin) r a I → wpOp P ops Q i0 (fun a' w' => S w' ∧ wpAnyH P md ops Q S (r.length + ts.length + 1) (l.setIfInBounds i0 true) a' w') a w := by
    intro r l a I w hok hc hI h
    refine wpOp_upon (R := fun v w' => v = ptr w.heap.size ∧ w' = w.alloc obj) ha0 hga (by rw [hal]; exact ⟨rfl, rfl⟩) ?_
    rintro v w' ⟨rfl, rfl⟩
    rw [hd]
    exact ⟨hc.held _ (hc.grow _ hI), done_of hsel hQ hd ha0 hs has hfin r l a I _ _ hok hc (hc.grow _ hI) (hc.big _ hI) (heap_alloc_new _ _) h⟩
  intro r
  induction r with
  | nil =>
    intro l a I w hok hc hI h
    have hok' := hok
    simp only [chainOk, Bool.and_eq_true, beq_iff_eq] at hok'
    refine wpAnyH_all hok'.1.1 (by simp) fun j hj => ?_
    obtain rfl : j = i0 := by simpa using hj
    exact al [] l a I w hok hc hI h
  | cons x r ih =>
    obtain ⟨b, i⟩ := x
    intro l a I w hok hc hI h
    cases b with
    | true =>
      simp only [chainOk, Bool.and_eq_true] at hok
      obtain ⟨⟨⟨⟨⟨⟨h1, h2⟩, h3⟩, h4⟩, h5⟩, h6⟩, h7⟩ := hok
      obtain ⟨o, v, ho, hy, hr⟩ := h
      rw [List.length_cons, show r.length + 1 + ts.length + 1 + 1 = (r.length + ts.length + 1 + 1) + 1 by omega]
      exact wpAnyH_take (v := v) ho hsel h1 h2 (fun c a w => hQ c _ _ a w) hy (hc.held _ hI) (ih _ _ I w h7 hc hI hr)
    | false =>
      have hok0 := hok
      simp only [chainOk, Bool.and_eq_true, Bool.or_eq_true, beq_iff_eq] at hok
      obtain ⟨⟨⟨⟨h1, h2⟩, h5⟩, h6⟩, h7⟩ := hok
      have h0 := h
      obtain ⟨o, ho, hgd, hr⟩ := h
      have one : wpOp P ops Q i (fun a' w' => S w' ∧ wpAnyH P md ops Q S (r.length + ts.length + 1 + 1) (l.setIfInBounds i true) a' w') a w :=
        wpOp_upon ho hgd (hr w hI) fun v w' ⟨hbw, I', hc', hI', hr'⟩ => ⟨hc'.held _ hI', ih _ _ I' w' h7 hc' hI' hr'⟩
      have two := al ((false, i) :: r) l a I w hok0 hc hI h0
      rw [List.length_cons, show r.length + 1 + ts.length + 1 = r.length + ts.length + 1 + 1 by omega] at two
      rw [List.length_cons, show r.length + 1 + ts.length + 1 + 1 = (r.length + ts.length + 1 + 1) + 1 by omega]
      rcases h1 with (h1 | h1) | h1
      · refine wpAnyH_all h1 (by simp) fun j hj => ?_
        obtain rfl : j = i := by simpa using hj
        exact one
      · refine wpAnyH_all h1 (by simp) fun j hj => ?_
        simp only [List.mem_cons, List.not_mem_nil, or_false] at hj
        rcases hj with rfl | rfl
        · exact one
        · exact two
      · refine wpAnyH_all h1 (by simp) fun j hj => ?_
        simp only [List.mem_cons, List.not_mem_nil, or_false] at hj
        rcases hj with rfl | rfl
        · exact two
        · exact one

theorem chainA_mono {P : Program} {ops : Array Oper} {S : World → Prop} {n0 : Nat} {obj : Obj} {fin fin' : Act → (World → Prop) → Prop} (hf : ∀ a I, (∀ w, I w → S w) → fin a I → fin' a I) :
    ∀ (r : List (Bool × Nat)) (a : Act) (I : World → Prop), (∀ w, I w → S w) → chainA P ops S n0 obj fin r a I → chainA P ops S n0 obj fin' r a I
  | [], a, I, hc, h => hf a I hc h
  | (true, i) :: r, a, I, hc, ⟨o, v, ho, hy, hr⟩ => ⟨o, v, ho, hy, chainA_mono hf r _ I hc hr⟩
  | (false, i) :: r, a, I, hc, ⟨o, ho, hg, hr⟩ => ⟨o, ho, hg, fun w hw => by
      have h := hr w hw
      generalize (execOp a.eval o).run P w = q at h ⊢
      cases q with
      | ok n w' =>
        cases n <;> simp only [Upon] at h ⊢
        case value v => obtain ⟨hb, I', c, i1, i2⟩ := h; exact ⟨hb, I', c, i1, chainA_mono hf r _ I' c.held i2⟩
        case enter f args => exact h.mono fun e w'' ⟨v, he, hb, I', c, i1, i2⟩ => ⟨v, he, hb, I', c, i1, chainA_mono hf r _ I' c.held i2⟩
      | halt x w' => simp only [Upon] at h⟩
/-- A region without a new block. -/
def chainOkP (md : Region.Mode) (ops : Array Oper) : List (Bool × Nat) → Array Bool → Bool
  | [], l => Region.ready md ops l == []
  | (true, i) :: r, l => Region.free md ops l i && (Region.ready md ops l).contains i && chainOkP md ops r (l.setIfInBounds i true)
  | (false, i) :: r, l => (Region.ready md ops l == [i]) && chainOkP md ops r (l.setIfInBounds i true)
theorem plain_of {fp : Act → World → Prop} (hsel : Region.noSelect ops = true) (hQ : ∀ c (d : Option Tmp) v a w, Q (.panic c) (a.put d v) w → Q (.panic c) a w) (hfin : ∀ a w, fp a w → Q .normal a w) :
    ∀ (r : List (Bool × Nat)) (l : Array Bool) (a : Act) (I : World → Prop) (w : World), chainOkP md ops r l = true → (∀ w, I w → S w) → I w →
      chainA P ops S n0 obj (atEndP fp) r a I → wpAnyH P md ops Q S r.length l a w
  | [], l, a, I, w, hok, hc, hI, h => wpAnyH_done (by simpa [chainOkP] using hok) (hfin _ _ (h w hI)) 0
  | (true, i) :: r, l, a, I, w, hok, hc, hI, h => by
    simp only [chainOkP, Bool.and_eq_true] at hok
    obtain ⟨⟨h1, h2⟩, h7⟩ := hok
    obtain ⟨o, v, ho, hy, hr⟩ := h
    exact wpAnyH_take (v := v) ho hsel h1 h2 (fun c a w => hQ c _ _ a w) hy (hc _ hI) (plain_of hsel hQ hfin r _ _ I w h7 hc hI hr)
  | (false, i) :: r, l, a, I, w, hok, hc, hI, h => by
    simp only [chainOkP, Bool.and_eq_true, beq_iff_eq] at hok
    obtain ⟨h1, h7⟩ := hok
    obtain ⟨o, ho, hgd, hr⟩ := h
    refine wpAnyH_all h1 (by simp) fun j hj => ?_
    obtain rfl : j = i := by simpa using hj
    exact wpOp_upon ho hgd (hr w hI) fun v w' ⟨hbw, I', hc', hI', hr'⟩ => ⟨hc'.held _ hI', plain_of hsel hQ hfin r _ _ I' w' h7 hc'.held hI' hr'⟩
/-- THE LAW of a region without a new block. -/
theorem region_plain {id : Nat} {a : Act} {w : World} (r : List (Bool × Nat)) (n0 : Nat) (obj : Obj) (S I : World → Prop)
    (hm : P.follows .mixedOrders = true) (hok : chainOkP .any ops r (Array.replicate ops.size false) = true) (hlen : ops.size = r.length) (hsel : Region.noSelect ops = true)
    (hc : ∀ w, I w → S w) (hI : I w.drew) (h : chainA P ops S n0 obj (atEndP (Q .normal)) r a I) : (Code.region id ops true).wp P Q a w := by
  refine wp_region_noPanic (wp_region_held hm (S := S) ?_)
  have k := plain_of (md := .any) (Q := NoPanic Q) hsel (fun _ _ _ _ _ h => h) (fun a w h => NoPanic.normal h) r _ a I _ hok hc hI h
  rw [← hlen] at k
  exact k
/-- A region whose last operation stores into a block that was there. -/
def chainOkS (md : Region.Mode) (ops : Array Oper) (s : Nat) : List (Bool × Nat) → Array Bool → Bool
  | [], l => (Region.ready md ops l == [s]) && (Region.ready md ops (l.setIfInBounds s true) == [])
  | (true, i) :: r, l => Region.free md ops l i && (Region.ready md ops l).contains i && chainOkS md ops s r (l.setIfInBounds i true)
  | (false, i) :: r, l => (Region.ready md ops l == [i]) && chainOkS md ops s r (l.setIfInBounds i true)
theorem store_of {fp : Act → World → Prop} {s : Nat} (hsel : Region.noSelect ops = true) (hQ : ∀ c (d : Option Tmp) v a w, Q (.panic c) (a.put d v) w → Q (.panic c) a w)
    (hfin : ∀ a w, fp a w → wpOp P ops Q s (fun a' w' => S w' ∧ Q .normal a' w') a w) :
    ∀ (r : List (Bool × Nat)) (l : Array Bool) (a : Act) (I : World → Prop) (w : World), chainOkS md ops s r l = true → (∀ w, I w → S w) → I w →
      chainA P ops S n0 obj (atEndP fp) r a I → wpAnyH P md ops Q S (r.length + 1) l a w
  | [], l, a, I, w, hok, hc, hI, h => by
    simp only [chainOkS, Bool.and_eq_true, beq_iff_eq] at hok
    refine wpAnyH_all hok.1 (by simp) fun i hi => ?_
    obtain rfl : i = s := by simpa using hi
    exact wpOp_mono (fun a' w' hh => ⟨hh.1, wpAnyH_done hok.2 hh.2 0⟩) (hfin _ _ (h w hI))
  | (true, i) :: r, l, a, I, w, hok, hc, hI, h => by
    simp only [chainOkS, Bool.and_eq_true] at hok
    obtain ⟨⟨h1, h2⟩, h7⟩ := hok
    obtain ⟨o, v, ho, hy, hr⟩ := h
    exact wpAnyH_take (v := v) ho hsel h1 h2 (fun c a w => hQ c _ _ a w) hy (hc _ hI) (store_of hsel hQ hfin r _ _ I w h7 hc hI hr)
  | (false, i) :: r, l, a, I, w, hok, hc, hI, h => by
    simp only [chainOkS, Bool.and_eq_true, beq_iff_eq] at hok
    obtain ⟨h1, h7⟩ := hok
    obtain ⟨o, ho, hgd, hr⟩ := h
    refine wpAnyH_all h1 (by simp) fun j hj => ?_
    obtain rfl : j = i := by simpa using hj
    exact wpOp_upon ho hgd (hr w hI) fun v w' ⟨hbw, I', hc', hI', hr'⟩ => ⟨hc'.held _ hI', store_of hsel hQ hfin r _ _ I' w' h7 hc'.held hI' hr'⟩
/-- THE LAW of a region whose last operation stores one cell. -/
theorem region_store {id : Nat} {a : Act} {w : World} (r : List (Bool × Nat)) (s : Nat) (os : Oper) (n0 : Nat) (obj : Obj) (S I : World → Prop)
    (hm : P.follows .mixedOrders = true) (hok : chainOkS .any ops s r (Array.replicate ops.size false) = true) (hlen : ops.size = r.length + 1) (hsel : Region.noSelect ops = true)
    (hs0 : ops[s]? = some os) (hgs : os.guard = none) (hds : os.dst = none) (hc : ∀ w, I w → S w) (hI : I w.drew)
    (h : chainA P ops S n0 obj (atEndP fun a w => ∃ w', (execOp a.eval os).run P w = .ok .skip w' ∧ S w' ∧ Q .normal a w') r a I) : (Code.region id ops true).wp P Q a w := by
  refine wp_region_noPanic (wp_region_held hm (S := S) ?_)
  have k := store_of (md := .any) (Q := NoPanic Q) (S := S) (s := s) hsel (fun _ _ _ _ _ h => h) ?_ r _ a I _ hok hc hI h
  · rw [← hlen] at k; exact k
  · rintro a w ⟨w', e1, e2, e3⟩
    unfold wpOp
    simp only [hs0, wanted_of hgs, if_true]
    refine .inl ?_
    unfold Oper.wp
    rw [e1]
    show S w' ∧ NoPanic Q .normal (a.put os.dst undef) w'
    rw [hds]
    exact ⟨e2, NoPanic.normal e3⟩
/-- THE LAW. -/
theorem region_alloc {id : Nat} {a : Act} {w : World} (r : List (Bool × Nat)) (i0 s d0 : Nat) (ts : List (Nat × Tmp × Tmp)) (oa os : Oper) (obj : Obj) (cells : List Value) (n0 : Nat) (S I : World → Prop) (T : TypeId) (x y : Operand)
    (hm : P.follows .mixedOrders = true) (hok : chainOk .any ops oa i0 s ts r (Array.replicate ops.size false) = true) (hlen : ops.size = r.length + ts.length + 1 + 1) (has : assigns ops ts = true) (hsel : Region.noSelect ops = true)
    (ha0 : ops[i0]? = some oa) (hga : oa.guard = none) (hd : oa.dst = some d0) (hal : ∀ (a : Act) (w : World), (execOp a.eval oa).run P w = .ok (.value (ptr w.heap.size)) (w.alloc obj))
    (hs0 : ops[s]? = some os) (hgs : os.guard = none) (hds : os.dst = none) (hos : os.op = .store T (.tmp d0) y) 
    (hc : Clo n0 obj S I) (hI : I w.drew)
    (h : chainA P ops S n0 obj (atEnd n0 obj fun a w g => ∃ cells : Array Value, (a.put (some d0) (ptr g)).eval (.tmp d0) = ptr g ∧ (a.put (some d0) (ptr g)).eval y = .agg cells ∧ w.there g 0 cells.size ∧ (P.info? T).map (·.size) = some cells.size ∧ cells.all (·.oneCell') = true ∧ S (w.setCells g 0 cells.toList) ∧ ∃ a'', runsTo ts (a.put (some d0) (ptr g)) a'' ∧ Q .normal a'' (w.setCells g 0 cells.toList)) r a I) :
    (Code.region id ops true).wp P Q a w := by
  refine wp_region_noPanic (wp_region_held hm (S := S) ?_)
  have k := yet_of (md := .any) (Q := NoPanic Q) hsel (fun _ _ _ _ _ h => h) hd ha0 ⟨os, hs0, hgs⟩ has ?_ hga hal r _ a I _ hok hc hI h
  · rw [← hlen] at k; exact k
  rintro a w g ⟨cells, e1, e2, h1, h2, h3, h4, a'', h5, h6⟩
  unfold wpOp
  simp only [hs0, wanted_of hgs, if_true]
  refine .inl (wp_store_mid T (.tmp d0) y hos g 0 cells e1 e2 h1 h2 h3 ?_)
  rw [hds]
  exact ⟨h4, a'', h5, NoPanic.normal h6⟩
end
end Go.Proofs.Ytkmkochganknmaa.reg
