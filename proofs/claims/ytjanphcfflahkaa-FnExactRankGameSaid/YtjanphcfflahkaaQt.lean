/- Places looked for: in three numbers, and three places in lists of them; blocks that hold three numbers. -/
import Derived.Test.YtjanphcfflahkaaQe
import Derived.Test.YtjanphcfflahkaaIs
import Derived.Test.YtjanphcfflahkaaR3
namespace Go.Proofs.Ytjanphcfflahkaa.deal
open Go.RowKit
open cards
set_option linter.unusedVariables false

def TBox (w : World) (g : Nat) (x : A3) : Prop := w.heap[g]? = some x.obj
theorem TBox.lt {w : World} {g : Nat} {x : A3} (h : TBox w g x) : g < w.heap.size := by
  rcases Nat.lt_or_ge g w.heap.size with h1 | h1
  · exact h1
  · unfold TBox at h; rw [Array.getElem?_eq_none h1] at h; cases h
theorem TBox.newAt {w : World} {g : Nat} {x : A3} {o : Obj} (h : w.heap.size = g) (ho : o = x.obj) : TBox (w.alloc o) g x := by subst h; subst ho; exact heap_alloc_new w _
theorem TBox.alloc {w : World} {g : Nat} {x : A3} (h : TBox w g x) (o : Obj) : TBox (w.alloc o) g x := (Below.heap_alloc w o g h.lt).trans h
theorem TBox.drew {w : World} {g : Nat} {x : A3} (h : TBox w g x) : TBox w.drew g x := h
theorem TBox.drewN {w : World} {g : Nat} {x : A3} (h : TBox w g x) (n : Nat) : TBox (w.drewN n) g x := h
theorem TBox.below {w w1 : World} {g : Nat} {x : A3} (h : TBox w g x) (b : Below w.heap.size w w1) : TBox w1 g x := (b.block g h.lt).trans h
theorem TBox.under {w w1 : World} {g B : Nat} {x : A3} (h : TBox w g x) (hg : g < B) (b : Below B w w1) : TBox w1 g x := (b.block g hg).trans h
theorem TBox.cell {w : World} {g : Nat} {x : A3} (h : TBox w g x) : w.cell? ⟨g, 0, none⟩ = some (.int .i64 x.a) ∧ w.cell? ⟨g, 1, none⟩ = some (.int .i64 x.b) ∧ w.cell? ⟨g, 2, none⟩ = some (.int .i64 x.c) ∧ True := by
  unfold TBox at h
  exact ⟨by rw [cell_of_row w g 0 _ _ _ h]; rfl, by rw [cell_of_row w g 1 _ _ _ h]; rfl, by rw [cell_of_row w g 2 _ _ _ h]; rfl, trivial⟩
theorem TBox.marked {w w1 : World} {g : Nat} {x : A3} {row : Option Nat} (h : TBox w g x) (hg : w.grownBy w1 row) (h2 : ∀ k, row = some k → g < k) : TBox w1 g x :=
  (hg.block g h.lt (fun e => Nat.lt_irrefl _ (h2 g e.symm))).trans h
theorem TBox.rd {w : World} {g : Nat} {x : A3} (h : TBox w g x) : Rd w (some ⟨g, 0, none⟩) (ints [x.a, x.b, x.c]) := Rd.of_block h rfl
theorem TBox.far {w : World} {g : Nat} {x : A3} (h : TBox w g x) {p : Addr} (hp : g ≠ p.block) (u : Value) : TBox (w.setCell p u) g x := (Below.heap_setCell w p u g hp).trans h
theorem DBox.far {w : World} {g : Nat} {x : Dv} (h : DBox w g x) {p : Addr} (hp : g ≠ p.block) (u : Value) : DBox (w.setCell p u) g x := (Below.heap_setCell w p u g hp).trans h

/-- The place of a number in a list, or -1. -/
def fiI (c : Int) : List Int → Nat
  | [] => 0
  | x :: r => if c = x then 0 else fiI c r + 1
def posI (l : List Int) (c : Int) : Int := if c ∈ l then (fiI c l : Int) else -1
theorem fiI_at : ∀ {l : List Int} {c : Int} {k : Nat}, l[k]? = some c → (∀ (j : Nat) y, j < k → l[j]? = some y → c ≠ y) → fiI c l = k
  | [], c, k, h, _ => by simp at h
  | y :: r, c, 0, h, _ => by
    obtain rfl : y = c := by simpa using h
    simp [fiI]
  | y :: r, c, k + 1, h, hu => by
    have h0 := hu 0 y (by omega) rfl
    have ih := fiI_at (l := r) (k := k) (by simpa using h) (fun j z hj hz => hu (j + 1) z (by omega) (by simpa using hz))
    simp [fiI, h0, ih]
theorem posI_at {l : List Int} {c : Int} {k : Nat} (h : l[k]? = some c) (hu : ∀ (j : Nat) y, j < k → l[j]? = some y → c ≠ y) : (k : Int) = posI l c := by
  unfold posI
  rw [if_pos (List.mem_of_getElem? h), fiI_at h hu]
theorem posI_none {l : List Int} {c : Int} (hu : ∀ (j : Nat) y, l[j]? = some y → c ≠ y) : -1 = posI l c := by
  unfold posI
  rw [if_neg (fun h => by obtain ⟨j, hj⟩ := List.mem_iff_getElem?.1 h; exact hu j c hj rfl)]

/-! Three places in a list of lines. -/
def wf3 (x : A3) : Prop := (Lit.int .i64 x.a).wf = true ∧ (Lit.int .i64 x.b).wf = true ∧ (Lit.int .i64 x.c).wf = true
def lits3 (x : A3) : List Lit := [.int .i64 x.a, .int .i64 x.b, .int .i64 x.c]
def same3 (x y : A3) : Bool := decide (x.a = y.a ∧ x.b = y.b ∧ x.c = y.c)
theorem same3_iff {x y : A3} : same3 x y = true ↔ x = y := by
  obtain ⟨a, b, c⟩ := x
  obtain ⟨e, f, g⟩ := y
  simp [same3]
theorem key3 (x : A3) (h : wf3 x) : (Try.prog).keyLits 3 58 x.val.cells.toList = some (lits3 x) := by
  obtain ⟨w1, w2, w3⟩ := h
  have ce : (Try.prog).cellsOf 3 = 1 := by kernel_rfl
  have ct : (Try.prog).cellsOf 58 = 3 := by kernel_rfl
  simp [Program.keyLits, Try.underlying58, Try.underlying3, Value.cells, ce, ct, w1, w2, w3, show List.range 3 = [0, 1, 2] from rfl, lits3]
theorem eq3 (x y : A3) (hx : wf3 x) (hy : wf3 y) (w : World) : (Op.equalIn 10000 58 x.val y.val).run Try.prog w = .ok (same3 x y) w := by
  obtain ⟨r, hr, hi⟩ := run_equalIn_deep (P := Try.prog) 9998 2 58 (by kernel_rfl) w 3 3 x.val y.val (lits3 x) (lits3 y) (by kernel_rfl) (by kernel_rfl) (key3 x hx) (key3 y hy)
  have e : r = same3 x y := by
    rw [Bool.eq_iff_iff, hi]
    simp [lits3, same3]
  rw [← e]
  exact hr
def fi3 (c : A3) : List A3 → Nat
  | [] => 0
  | x :: r => if same3 c x = true then 0 else fi3 c r + 1
def has3 (l : List A3) (c : A3) : Bool := l.any (fun x => same3 c x)
theorem has3_iff {l : List A3} {c : A3} : has3 l c = true ↔ c ∈ l := by
  unfold has3
  rw [List.any_eq_true]
  constructor
  · rintro ⟨x, hx, h⟩; rw [same3_iff.1 h]; exact hx
  · intro h; exact ⟨c, h, same3_iff.2 rfl⟩
def pos3 (l : List A3) (c : A3) : Int := if has3 l c = true then (fi3 c l : Int) else -1
theorem fi3_at : ∀ {l : List A3} {c x : A3} {k : Nat}, l[k]? = some x → same3 c x = true → (∀ (j : Nat) y, j < k → l[j]? = some y → same3 c y = false) → fi3 c l = k
  | [], c, x, k, h, _, _ => by simp at h
  | y :: r, c, x, 0, h, hs, _ => by
    obtain rfl : y = x := by simpa using h
    simp [fi3, hs]
  | y :: r, c, x, k + 1, h, hs, hu => by
    have h0 := hu 0 y (by omega) rfl
    have ih := fi3_at (l := r) (k := k) (by simpa using h) hs (fun j z hj hz => hu (j + 1) z (by omega) (by simpa using hz))
    simp [fi3, h0, ih]
theorem pos3_at {l : List A3} {c x : A3} {k : Nat} (h : l[k]? = some x) (hs : same3 c x = true) (hu : ∀ (j : Nat) y, j < k → l[j]? = some y → same3 c y = false) : (k : Int) = pos3 l c := by
  unfold pos3
  rw [if_pos (has3_iff.2 (by rw [same3_iff.1 hs]; exact List.mem_of_getElem? h)), fi3_at h hs hu]
theorem has3_no {l : List A3} {c : A3} (hu : ∀ (j : Nat) y, l[j]? = some y → same3 c y = false) : has3 l c = false := by
  cases h : has3 l c
  · rfl
  · obtain ⟨k, hk⟩ := List.mem_iff_getElem?.1 (has3_iff.1 h)
    have := hu k c hk
    rw [same3_iff.2 rfl] at this; cases this
theorem pos3_none {l : List A3} {c : A3} (hu : ∀ (j : Nat) y, l[j]? = some y → same3 c y = false) : -1 = pos3 l c := by
  unfold pos3
  rw [has3_no hu]; rfl

end Go.Proofs.Ytjanphcfflahkaa.deal
