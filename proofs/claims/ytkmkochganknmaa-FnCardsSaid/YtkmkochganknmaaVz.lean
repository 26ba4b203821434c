/- A region that draws its order, with TWO new blocks among its operations: one walk serves all its orders. What stores stand at its end, one behind the other. -/
import Derived.Test.YtkmkochganknmaaVy
namespace Go.Proofs.Ytkmkochganknmaa.cards
open Go.RowKit
open reg
set_option linter.unusedVariables false

section
variable {P : Program} {md : Region.Mode} {ops : Array Oper} {Q : Exit → Act → World → Prop}

def putO (a : Act) (d : Tmp) : Option Nat → Act
  | none => a
  | some g => a.put (some d) (ptr g)
/-- The activation, whichever of the two blocks are made. -/
def putT (a : Act) (d0 d1 : Tmp) (m0 m1 : Option Nat) : Act := putO (putO a d0 m0) d1 m1
theorem putO_put {a : Act} {d : Tmp} {m : Option Nat} {y : Option Tmp} {v : Value} (h : y ≠ some d) : (putO a d m).put y v = putO (a.put y v) d m := by
  cases m with
  | none => rfl
  | some g => exact Act.put_comm a (x := some d) (y := y) (ptr g) v (fun e he => by cases he; exact h)
theorem putT_put {a : Act} {d0 d1 : Tmp} {m0 m1 : Option Nat} {y : Option Tmp} {v : Value} (h0 : y ≠ some d0) (h1 : y ≠ some d1) : (putT a d0 d1 m0 m1).put y v = putT (a.put y v) d0 d1 m0 m1 := by
  unfold putT
  rw [putO_put h1, putO_put h0]
theorem exec_putO {o : Oper} (hs : ∀ cs b, o.op ≠ .select cs b) {a : Act} {d : Tmp} {m : Option Nat} (h : d ∉ o.looksAt ops) : execOp (putO a d m).eval o = execOp a.eval o := by
  cases m with
  | none => rfl
  | some g => exact execOp_put (ops := ops) o hs a (some d) (ptr g) (fun e he => by cases he; exact h)
theorem exec_putT {o : Oper} (hs : ∀ cs b, o.op ≠ .select cs b) {a : Act} {d0 d1 : Tmp} {m0 m1 : Option Nat} (h0 : d0 ∉ o.looksAt ops) (h1 : d1 ∉ o.looksAt ops) : execOp (putT a d0 d1 m0 m1).eval o = execOp a.eval o := by
  unfold putT
  rw [exec_putO hs h1, exec_putO hs h0]
theorem wanted_putO (o : Oper) {a : Act} {d : Tmp} {m : Option Nat} (h : d ∉ o.looksAt ops) : Region.wanted o (yielded ops (putO a d m).tmps) = Region.wanted o (yielded ops a.tmps) := by
  cases m with
  | none => rfl
  | some g => exact wanted_put o a (some d) (ptr g) (fun e he => by cases he; exact h)
theorem wanted_putT (o : Oper) {a : Act} {d0 d1 : Tmp} {m0 m1 : Option Nat} (h0 : d0 ∉ o.looksAt ops) (h1 : d1 ∉ o.looksAt ops) : Region.wanted o (yielded ops (putT a d0 d1 m0 m1).tmps) = Region.wanted o (yielded ops a.tmps) := by
  unfold putT
  rw [wanted_putO o h1, wanted_putO o h0]
/-- An operation that looks at neither slot and sets neither. -/
def farAt (ops : Array Oper) (d0 d1 : Tmp) (i : Nat) : Bool := match ops[i]? with
  | some o => !(o.looksAt ops).contains d0 && !(o.looksAt ops).contains d1 && o.dst != some d0 && o.dst != some d1
  | none => false
theorem farAt_spec {d0 d1 : Tmp} {i : Nat} {o : Oper} (h : farAt ops d0 d1 i = true) (ho : ops[i]? = some o) : d0 ∉ o.looksAt ops ∧ d1 ∉ o.looksAt ops ∧ o.dst ≠ some d0 ∧ o.dst ≠ some d1 := by
  unfold farAt at h
  rw [ho] at h
  simp only [Bool.and_eq_true, Bool.not_eq_true', bne_iff_ne] at h
  obtain ⟨⟨⟨h1, h2⟩, h3⟩, h4⟩ := h
  exact ⟨(fun hm => by rw [List.contains_iff_mem.2 hm] at h1; cases h1), (fun hm => by rw [List.contains_iff_mem.2 hm] at h2; cases h2), h3, h4⟩
def seqS (md : Region.Mode) (ops : Array Oper) : List Nat → Array Bool → Bool
  | [], l => Region.ready md ops l == []
  | j :: r, l => (Region.ready md ops l == [j]) && seqS md ops r (l.setIfInBounds j true)
/-- What comes at the end, one behind the other. -/
def runsS (P : Program) (ops : Array Oper) (S : World → Prop) (K : Act → World → Prop) : List Nat → Act → World → Prop
  | [], a, w => K a w
  | j :: r, a, w => ∃ o w' v, ops[j]? = some o ∧ o.guard = none ∧ ((execOp a.eval o).run P w = .ok (.value v) w' ∨ ((execOp a.eval o).run P w = .ok .skip w' ∧ v = undef)) ∧ S w' ∧ runsS P ops S K r (a.put o.dst v) w'
theorem seq_of {S : World → Prop} : ∀ (st : List Nat) (l : Array Bool) (a : Act) (w : World), seqS md ops st l = true → S w → runsS P ops S (Q .normal) st a w → wpAnyH P md ops Q S st.length l a w
  | [], l, a, w, hok, hS, h => wpAnyH_done (by simpa [seqS] using hok) h 0
  | j :: r, l, a, w, hok, hS, h => by
    simp only [seqS, Bool.and_eq_true, beq_iff_eq] at hok
    obtain ⟨o, w', v, ho, hg, hrun, hS', hr⟩ := h
    refine wpAnyH_all hok.1 (by simp) fun i hi => ?_
    obtain rfl : i = j := by simpa using hi
    unfold wpOp
    simp only [ho, wanted_of hg, if_true]
    refine .inl ?_
    unfold Oper.wp
    rcases hrun with hrun | ⟨hrun, rfl⟩
    · rw [hrun]; exact ⟨hS', seq_of r _ _ _ hok.2 hS' hr⟩
    · rw [hrun]; exact ⟨hS', seq_of r _ _ _ hok.2 hS' hr⟩
def okT (md : Region.Mode) (ops : Array Oper) (i0 i1 : Nat) (d0 d1 : Tmp) (st : List Nat) : Nat → Bool → Bool → List (Bool × Nat) → Array Bool → Bool
  | 0, p0, p1, [], l => !p0 && !p1 && seqS md ops st l
  | 0, _, _, _ :: _, _ => false
  | n + 1, p0, p1, [], l => (Region.ready md ops l != []) && (Region.ready md ops l).all (fun j => (p0 && j == i0) || (p1 && j == i1)) && (!p0 || okT md ops i0 i1 d0 d1 st n false p1 [] (l.setIfInBounds i0 true)) && (!p1 || okT md ops i0 i1 d0 d1 st n p0 false [] (l.setIfInBounds i1 true))
  | n + 1, p0, p1, (true, i) :: r, l => Region.free md ops l i && (Region.ready md ops l).contains i && farAt ops d0 d1 i && okT md ops i0 i1 d0 d1 st n p0 p1 r (l.setIfInBounds i true)
  | n + 1, p0, p1, (false, i) :: r, l => (Region.ready md ops l != []) && (Region.ready md ops l).all (fun j => (j == i) || ((p0 && j == i0) || (p1 && j == i1))) && farAt ops d0 d1 i && okT md ops i0 i1 d0 d1 st n p0 p1 r (l.setIfInBounds i true) && (!p0 || okT md ops i0 i1 d0 d1 st n false p1 ((false, i) :: r) (l.setIfInBounds i0 true)) && (!p1 || okT md ops i0 i1 d0 d1 st n p0 false ((false, i) :: r) (l.setIfInBounds i1 true))
/-- The blocks that are made. -/
def madeO (n0 : Nat) (obj : Obj) (w : World) : Option Nat → Prop
  | none => True
  | some g => n0 ≤ g ∧ w.heap[g]? = some obj
theorem madeO_below {n0 : Nat} {obj : Obj} {w w1 : World} {m : Option Nat} (h : madeO n0 obj w m) (b : Below w.heap.size w w1) : madeO n0 obj w1 m := by
  cases m with
  | none => trivial
  | some g => exact ⟨h.1, (b.block g (Array.getElem?_eq_some_iff.1 h.2).1).trans h.2⟩
def apartO : Option Nat → Option Nat → Prop
  | some g, some k => g ≠ k
  | _, _ => True
/-- What is known holds also with each of the new blocks. -/
structure Clo2 (n0 : Nat) (ob0 ob1 : Obj) (S I : World → Prop) : Prop where
  held : ∀ w, I w → S w
  big : ∀ w, I w → n0 ≤ w.heap.size
  grow0 : ∀ w, I w → I (w.alloc ob0)
  grow1 : ∀ w, I w → I (w.alloc ob1)
def chainT (P : Program) (ops : Array Oper) (S : World → Prop) (n0 : Nat) (ob0 ob1 : Obj) (fin : Act → (World → Prop) → Prop) : List (Bool × Nat) → Act → (World → Prop) → Prop
  | [], a, I => fin a I
  | (true, i) :: r, a, I => ∃ o v, ops[i]? = some o ∧ YieldsIf P ops S o v a ∧ chainT P ops S n0 ob0 ob1 fin r (a.put o.dst v) I
  | (false, i) :: r, a, I => ∃ o, ops[i]? = some o ∧ o.guard = none ∧ ∀ w, I w → Upon P (fun v w' => Below w.heap.size w w' ∧ ∃ I', Clo2 n0 ob0 ob1 S I' ∧ I' w' ∧ chainT P ops S n0 ob0 ob1 fin r (a.put o.dst v) I') ((execOp a.eval o).run P w)

/-- The end: both blocks are made, the stores are to come. -/
def finT (P : Program) (ops : Array Oper) (S : World → Prop) (Q : Exit → Act → World → Prop) (n0 : Nat) (ob0 ob1 : Obj) (st : List Nat) (d0 d1 : Tmp) (b : Act) (I : World → Prop) : Prop :=
  ∀ w g0 g1, I w → n0 ≤ g0 → n0 ≤ g1 → g0 ≠ g1 → w.heap[g0]? = some ob0 → w.heap[g1]? = some ob1 → runsS P ops S (Q .normal) st ((b.put (some d0) (ptr g0)).put (some d1) (ptr g1)) w
variable {S : World → Prop} {n0 : Nat} {ob0 ob1 : Obj} {o0 o1 : Oper} {i0 i1 : Nat} {d0 d1 : Tmp} {st : List Nat}

theorem two_of (hsel : Region.noSelect ops = true) (hQ : ∀ c (d : Option Tmp) v a w, Q (.panic c) (a.put d v) w → Q (.panic c) a w) (hdd : d0 ≠ d1)
    (h0 : ops[i0]? = some o0) (hd0 : o0.dst = some d0) (hg0 : o0.guard = none) (hal0 : ∀ (a : Act) (w : World), (execOp a.eval o0).run P w = .ok (.value (ptr w.heap.size)) (w.alloc ob0))
    (h1 : ops[i1]? = some o1) (hd1 : o1.dst = some d1) (hg1 : o1.guard = none) (hal1 : ∀ (a : Act) (w : World), (execOp a.eval o1).run P w = .ok (.value (ptr w.heap.size)) (w.alloc ob1)) :
    ∀ (n : Nat) (r : List (Bool × Nat)) (m0 m1 : Option Nat) (l : Array Bool) (a : Act) (I : World → Prop) (w : World),
      okT md ops i0 i1 d0 d1 st n m0.isNone m1.isNone r l = true → Clo2 n0 ob0 ob1 S I → I w → madeO n0 ob0 w m0 → madeO n0 ob1 w m1 → apartO m0 m1 →
      chainT P ops S n0 ob0 ob1 (finT P ops S Q n0 ob0 ob1 st d0 d1) r a I →
      wpAnyH P md ops Q S (n + st.length) l (putT a d0 d1 m0 m1) w := by
  have step0 : ∀ (n : Nat) (r : List (Bool × Nat)) (m1 : Option Nat) (l : Array Bool) (a : Act) (I : World → Prop) (w : World), Clo2 n0 ob0 ob1 S I → I w → madeO n0 ob1 w m1 →
      (∀ w' m0, I w' → madeO n0 ob0 w' (some m0) → madeO n0 ob1 w' m1 → apartO (some m0) m1 → wpAnyH P md ops Q S (n + st.length) (l.setIfInBounds i0 true) (putT a d0 d1 (some m0) m1) w') →
      wpOp P ops Q i0 (fun a' w' => S w' ∧ wpAnyH P md ops Q S (n + st.length) (l.setIfInBounds i0 true) a' w') (putT a d0 d1 none m1) w := by
    intro n r m1 l a I w hc hI hm1 hk
    refine wpOp_upon (R := fun v w' => v = ptr w.heap.size ∧ w' = w.alloc ob0) h0 hg0 (by rw [hal0]; exact ⟨rfl, rfl⟩) ?_
    rintro v w' ⟨rfl, rfl⟩
    have hb : Below w.heap.size w (w.alloc ob0) := (Below.refl _ _).alloc (Nat.le_refl _) _
    have e : (putT a d0 d1 none m1).put o0.dst (ptr w.heap.size) = putT a d0 d1 (some w.heap.size) m1 := by
      rw [hd0]
      unfold putT
      rw [putO_put (by intro e; injection e with e; exact hdd e)]
      rfl
    rw [e]
    refine ⟨hc.held _ (hc.grow0 _ hI), hk _ _ (hc.grow0 _ hI) ⟨hc.big _ hI, heap_alloc_new _ _⟩ (madeO_below hm1 hb) ?_⟩
    cases m1 with
    | none => trivial
    | some g => exact fun e => by have := (Array.getElem?_eq_some_iff.1 hm1.2).1; omega
  have step1 : ∀ (n : Nat) (r : List (Bool × Nat)) (m0 : Option Nat) (l : Array Bool) (a : Act) (I : World → Prop) (w : World), Clo2 n0 ob0 ob1 S I → I w → madeO n0 ob0 w m0 →
      (∀ w' m1, I w' → madeO n0 ob0 w' m0 → madeO n0 ob1 w' (some m1) → apartO m0 (some m1) → wpAnyH P md ops Q S (n + st.length) (l.setIfInBounds i1 true) (putT a d0 d1 m0 (some m1)) w') →
      wpOp P ops Q i1 (fun a' w' => S w' ∧ wpAnyH P md ops Q S (n + st.length) (l.setIfInBounds i1 true) a' w') (putT a d0 d1 m0 none) w := by
    intro n r m0 l a I w hc hI hm0 hk
    refine wpOp_upon (R := fun v w' => v = ptr w.heap.size ∧ w' = w.alloc ob1) h1 hg1 (by rw [hal1]; exact ⟨rfl, rfl⟩) ?_
    rintro v w' ⟨rfl, rfl⟩
    have hb : Below w.heap.size w (w.alloc ob1) := (Below.refl _ _).alloc (Nat.le_refl _) _
    have e : (putT a d0 d1 m0 none).put o1.dst (ptr w.heap.size) = putT a d0 d1 m0 (some w.heap.size) := by
      rw [hd1]; rfl
    rw [e]
    refine ⟨hc.held _ (hc.grow1 _ hI), hk _ _ (hc.grow1 _ hI) (madeO_below hm0 hb) ⟨hc.big _ hI, heap_alloc_new _ _⟩ ?_⟩
    cases m0 with
    | none => trivial
    | some g => exact fun e => by have := (Array.getElem?_eq_some_iff.1 hm0.2).1; omega
  intro n
  induction n with
  | zero =>
    intro r m0 m1 l a I w hok hc hI hm0 hm1 hap h
    cases r with
    | cons x r => simp [okT] at hok
    | nil =>
      cases m0 with
      | none => simp [okT] at hok
      | some g0 =>
        cases m1 with
        | none => simp [okT] at hok
        | some g1 =>
          simp only [okT, Option.isNone_some, Bool.not_false, Bool.true_and] at hok
          rw [Nat.zero_add]
          exact seq_of st l _ w hok (hc.held _ hI) (h w g0 g1 hI hm0.1 hm1.1 hap hm0.2 hm1.2)
  | succ n ih =>
    intro r m0 m1 l a I w hok hc hI hm0 hm1 hap h
    rw [show n + 1 + st.length = (n + st.length) + 1 by omega]
    cases r with
    | nil =>
      simp only [okT, Bool.and_eq_true, bne_iff_ne, List.all_eq_true] at hok
      obtain ⟨⟨⟨k1, k2⟩, k3⟩, k4⟩ := hok
      refine wpAnyH_all rfl k1 fun j hj => ?_
      have hj := k2 j hj
      simp only [Bool.or_eq_true, Bool.and_eq_true, beq_iff_eq] at hj
      rcases hj with ⟨hp, rfl⟩ | ⟨hp, rfl⟩
      · cases m0 with
        | some g => simp at hp
        | none =>
          simp only [Option.isNone_none, Bool.not_true, Bool.false_or] at k3
          exact step0 n [] m1 l a I w hc hI hm1 (fun w' g hI' a1 a2 a3 => ih [] (some g) m1 _ a I w' (by simpa using k3) hc hI' a1 a2 a3 h)
      · cases m1 with
        | some g => simp at hp
        | none =>
          simp only [Option.isNone_none, Bool.not_true, Bool.false_or] at k4
          exact step1 n [] m0 l a I w hc hI hm0 (fun w' g hI' a1 a2 a3 => ih [] m0 (some g) _ a I w' (by simpa using k4) hc hI' a1 a2 a3 h)
    | cons x r =>
      obtain ⟨b, i⟩ := x
      cases b with
      | true =>
        simp only [okT, Bool.and_eq_true] at hok
        obtain ⟨⟨⟨k1, k2⟩, k3⟩, k4⟩ := hok
        obtain ⟨o, v, ho, hy, hr⟩ := h
        obtain ⟨f0, f1, f2, f3⟩ := farAt_spec k3 ho
        refine wpAnyH_take (v := v) ho hsel k1 k2 (fun c a w => hQ c _ _ a w) (hy.of_same (exec_putT (Region.noSelect_spec hsel i o · · ho) f0 f1) (wanted_putT o f0 f1)) (hc.held _ hI) ?_
        rw [putT_put f2 f3]
        exact ih r m0 m1 _ _ I w k4 hc hI hm0 hm1 hap hr
      | false =>
        simp only [okT, Bool.and_eq_true, bne_iff_ne, List.all_eq_true] at hok
        obtain ⟨⟨⟨⟨⟨k1, k2⟩, k3⟩, k4⟩, k5⟩, k6⟩ := hok
        have h' := h
        obtain ⟨o, ho, hgd, hr⟩ := h
        obtain ⟨f0, f1, f2, f3⟩ := farAt_spec k3 ho
        refine wpAnyH_all rfl k1 fun j hj => ?_
        have hj := k2 j hj
        simp only [Bool.or_eq_true, Bool.and_eq_true, beq_iff_eq] at hj
        rcases hj with rfl | ⟨hp, rfl⟩ | ⟨hp, rfl⟩
        · refine wpOp_upon (R := fun v w' => Below w.heap.size w w' ∧ ∃ I', Clo2 n0 ob0 ob1 S I' ∧ I' w' ∧ chainT P ops S n0 ob0 ob1 (finT P ops S Q n0 ob0 ob1 st d0 d1) r (a.put o.dst v) I') ho hgd (by rw [exec_putT (Region.noSelect_spec hsel _ o · · ho) f0 f1]; exact hr w hI) fun v w' ⟨hbw, I', hc', hI', hr'⟩ => ?_
          refine ⟨hc'.held _ hI', ?_⟩
          rw [putT_put f2 f3]
          exact ih r m0 m1 _ _ I' w' k4 hc' hI' (madeO_below hm0 hbw) (madeO_below hm1 hbw) hap hr'
        · cases m0 with
          | some g => simp at hp
          | none =>
            simp only [Option.isNone_none, Bool.not_true, Bool.false_or] at k5
            exact step0 n ((false, i) :: r) m1 l a I w hc hI hm1 (fun w' g hI' a1 a2 a3 => ih ((false, i) :: r) (some g) m1 _ a I w' (by simpa using k5) hc hI' a1 a2 a3 h')
        · cases m1 with
          | some g => simp at hp
          | none =>
            simp only [Option.isNone_none, Bool.not_true, Bool.false_or] at k6
            exact step1 n ((false, i) :: r) m0 l a I w hc hI hm0 (fun w' g hI' a1 a2 a3 => ih ((false, i) :: r) m0 (some g) _ a I w' (by simpa using k6) hc hI' a1 a2 a3 h')
/-- THE LAW of a region with two new blocks. -/
theorem region_two {id : Nat} {a : Act} {w : World} (r : List (Bool × Nat)) (i0 i1 d0 d1 : Nat) (st : List Nat) (o0 o1 : Oper) (ob0 ob1 : Obj) (n0 : Nat) (S I : World → Prop)
    (hm : P.follows .mixedOrders = true) (hok : okT .any ops i0 i1 d0 d1 st (r.length + 2) true true r (Array.replicate ops.size false) = true) (hlen : ops.size = r.length + 2 + st.length) (hsel : Region.noSelect ops = true) (hdd : d0 ≠ d1)
    (h0 : ops[i0]? = some o0) (hd0 : o0.dst = some d0) (hg0 : o0.guard = none) (hal0 : ∀ (a : Act) (w : World), (execOp a.eval o0).run P w = .ok (.value (ptr w.heap.size)) (w.alloc ob0))
    (h1 : ops[i1]? = some o1) (hd1 : o1.dst = some d1) (hg1 : o1.guard = none) (hal1 : ∀ (a : Act) (w : World), (execOp a.eval o1).run P w = .ok (.value (ptr w.heap.size)) (w.alloc ob1))
    (hc : Clo2 n0 ob0 ob1 S I) (hI : I w.drew)
    (h : chainT P ops S n0 ob0 ob1 (finT P ops S Q n0 ob0 ob1 st d0 d1) r a I) :
    (Code.region id ops true).wp P Q a w := by
  refine wp_region_noPanic (wp_region_held hm (S := S) ?_)
  have k := two_of (md := .any) (Q := NoPanic Q) (st := st) (i0 := i0) (i1 := i1) hsel (fun _ _ _ _ _ h => h) hdd h0 hd0 hg0 hal0 h1 hd1 hg1 hal1 (r.length + 2) r none none _ a I _ hok hc hI trivial trivial trivial ?_
  · rw [← hlen] at k; exact k
  · have mono : ∀ (st : List Nat) (a : Act) (w : World), runsS P ops S (Q .normal) st a w → runsS P ops S (NoPanic Q .normal) st a w := by
      intro st
      induction st with
      | nil => intro a w h; exact NoPanic.normal h
      | cons j st ih => rintro a w ⟨o, w', v, e1, e2, e3, e4, e5⟩; exact ⟨o, w', v, e1, e2, e3, e4, ih _ _ e5⟩
    have monoC : ∀ (r : List (Bool × Nat)) (a : Act) (I : World → Prop), chainT P ops S n0 ob0 ob1 (finT P ops S Q n0 ob0 ob1 st d0 d1) r a I →
        chainT P ops S n0 ob0 ob1 (finT P ops S (NoPanic Q) n0 ob0 ob1 st d0 d1) r a I := by
      intro r
      induction r with
      | nil => intro a I h w g0 g1 a1 a2 a3 a4 a5 a6; exact mono _ _ _ (h w g0 g1 a1 a2 a3 a4 a5 a6)
      | cons x r ih =>
        obtain ⟨b, i⟩ := x
        cases b with
        | true => rintro a I ⟨o, v, ho, hy, hr⟩; exact ⟨o, v, ho, hy, ih _ _ hr⟩
        | false =>
          rintro a I ⟨o, ho, hg, hr⟩
          refine ⟨o, ho, hg, fun w hw => ?_⟩
          have h := hr w hw
          generalize (execOp a.eval o).run P w = q at h ⊢
          cases q with
          | ok n w' =>
            cases n <;> simp only [Upon] at h ⊢
            case value v => obtain ⟨hb, I', c, j1, j2⟩ := h; exact ⟨hb, I', c, j1, ih _ _ j2⟩
            case enter f args => exact h.mono fun e w'' ⟨v, he, hb, I', c, j1, j2⟩ => ⟨v, he, hb, I', c, j1, ih _ _ j2⟩
          | halt x w' => simp only [Upon] at h
    exact monoC r a I h
end
end Go.Proofs.Ytkmkochganknmaa.cards
