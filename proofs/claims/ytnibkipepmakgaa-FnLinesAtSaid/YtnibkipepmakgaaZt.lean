/- Blocks that hold three places, one number, one slice; lines compared; a place looked for in a line. -/
import Derived.Test.YtnibkipepmakgaaZa
import Derived.Test.YtnibkipepmakgaaMi
namespace Go.Proofs.Ytnibkipepmakgaa.parting
open Go.RowKit
open cards maps
set_option linter.unusedVariables false

def TBox (w : World) (g : Nat) (x : A3) : Prop := w.heap[g]? = some x.obj
theorem TBox.lt {w : World} {g : Nat} {x : A3} (h : TBox w g x) : g < w.heap.size := by
  rcases Nat.lt_or_ge g w.heap.size with h1 | h1
  · exact h1
  · unfold TBox at h; rw [Array.getElem?_eq_none h1] at h; cases h
theorem TBox.newAt {w : World} {g : Nat} {x : A3} {o : Obj} (h : w.heap.size = g) (ho : o = x.obj) : TBox (w.alloc o) g x := by subst h; subst ho; exact heap_alloc_new w _
theorem TBox.alloc {w : World} {g : Nat} {x : A3} (h : TBox w g x) (o : Obj) : TBox (w.alloc o) g x := (Below.heap_alloc w o g h.lt).trans h
theorem TBox.drew {w : World} {g : Nat} {x : A3} (h : TBox w g x) : TBox w.drew g x := h
theorem TBox.drewN {w : World} {g : Nat} {x : A3} (h : TBox w g x) (n : Nat) : TBox (w.drewN n) g x := h
theorem TBox.below {w w1 : World} {g : Nat} {x : A3} (h : TBox w g x) (b : Below w.heap.size w w1) : TBox w1 g x := (b.block g h.lt).trans h
theorem TBox.under {w w1 : World} {g B : Nat} {x : A3} (h : TBox w g x) (hg : g < B) (b : Below B w w1) : TBox w1 g x := (b.block g hg).trans h
theorem TBox.cell {w : World} {g : Nat} {x : A3} (h : TBox w g x) : w.cell? ⟨g, 0, none⟩ = some (.int .i64 x.a) ∧ w.cell? ⟨g, 1, none⟩ = some (.int .i64 x.b) ∧ w.cell? ⟨g, 2, none⟩ = some (.int .i64 x.c) ∧ True := by
  unfold TBox at h
  exact ⟨by rw [cell_of_row w g 0 _ _ _ h]; rfl, by rw [cell_of_row w g 1 _ _ _ h]; rfl, by rw [cell_of_row w g 2 _ _ _ h]; rfl, trivial⟩
theorem TBox.marked {w w1 : World} {g : Nat} {x : A3} {row : Option Nat} (h : TBox w g x) (hg : w.grownBy w1 row) (h2 : ∀ k, row = some k → g < k) : TBox w1 g x :=
  (hg.block g h.lt (fun e => Nat.lt_irrefl _ (h2 g e.symm))).trans h
theorem TBox.rd {w : World} {g : Nat} {x : A3} (h : TBox w g x) : Rd w (some ⟨g, 0, none⟩) (ints [x.a, x.b, x.c]) := Rd.of_block h rfl
theorem TBox.far {w : World} {g : Nat} {x : A3} (h : TBox w g x) {p : Addr} (hp : g ≠ p.block) (u : Value) : TBox (w.setCell p u) g x := (Below.heap_setCell w p u g hp).trans h
def wf3 (x : A3) : Prop := (Lit.int .i64 x.a).wf = true ∧ (Lit.int .i64 x.b).wf = true ∧ (Lit.int .i64 x.c).wf = true
def lits3 (x : A3) : List Lit := [.int .i64 x.a, .int .i64 x.b, .int .i64 x.c]
theorem key3 (x : A3) (h : wf3 x) : (Try.prog).keyLits 3 46 x.val.cells.toList = some (lits3 x) := by
  obtain ⟨w1, w2, w3⟩ := h
  have ce : (Try.prog).cellsOf 3 = 1 := by kernel_rfl
  have ct : (Try.prog).cellsOf 46 = 3 := by kernel_rfl
  simp [Program.keyLits, Try.underlying46, Try.underlying3, Value.cells, ce, ct, w1, w2, w3, show List.range 3 = [0, 1, 2] from rfl, lits3]
theorem eq3 (x y : A3) (hx : wf3 x) (hy : wf3 y) (w : World) : (Op.equalIn 10000 46 x.val y.val).run Try.prog w = .ok (same3 x y) w := by
  obtain ⟨r, hr, hi⟩ := run_equalIn_deep (P := Try.prog) 9998 2 46 (by kernel_rfl) w 3 3 x.val y.val (lits3 x) (lits3 y) (by kernel_rfl) (by kernel_rfl) (key3 x hx) (key3 y hy)
  have e : r = same3 x y := by
    rw [Bool.eq_iff_iff, hi]
    simp [lits3, same3]
  rw [← e]
  exact hr

/-- The number at a place of a line. -/
def A3.get (x : A3) : Nat → Int
  | 0 => x.a
  | 1 => x.b
  | _ => x.c
theorem TBox.get {w : World} {g : Nat} {x : A3} (h : TBox w g x) {k : Nat} (hk : k < 3) : w.cell? ⟨g, k, none⟩ = some (.int .i64 (A3.get x k)) := by
  obtain ⟨a, b, c, _⟩ := h.cell
  match k, hk with
  | 0, _ => exact a
  | 1, _ => exact b
  | 2, _ => exact c
/-- A block with one number. -/
def IBox (w : World) (g : Nat) (i : Int) : Prop := w.heap[g]? = some (.cells #[.int .i64 i] 3)
theorem IBox.lt {w : World} {g : Nat} {x : Int} (h : IBox w g x) : g < w.heap.size := by
  rcases Nat.lt_or_ge g w.heap.size with h1 | h1
  · exact h1
  · unfold IBox at h; rw [Array.getElem?_eq_none h1] at h; cases h
theorem IBox.newAt {w : World} {g : Nat} {x : Int} {o : Obj} (h : w.heap.size = g) (ho : o = .cells #[.int .i64 x] 3) : IBox (w.alloc o) g x := by subst h; subst ho; exact heap_alloc_new w _
theorem IBox.alloc {w : World} {g : Nat} {x : Int} (h : IBox w g x) (o : Obj) : IBox (w.alloc o) g x := (Below.heap_alloc w o g h.lt).trans h
theorem IBox.drew {w : World} {g : Nat} {x : Int} (h : IBox w g x) : IBox w.drew g x := h
theorem IBox.drewN {w : World} {g : Nat} {x : Int} (h : IBox w g x) (n : Nat) : IBox (w.drewN n) g x := h
theorem IBox.below {w w1 : World} {g : Nat} {x : Int} (h : IBox w g x) (b : Below w.heap.size w w1) : IBox w1 g x := (b.block g h.lt).trans h
theorem IBox.cell {w : World} {g : Nat} {x : Int} (h : IBox w g x) : w.cell? ⟨g, 0, none⟩ = some (.int .i64 x) := (cell_of_row w g 0 _ _ _ h).trans rfl
/-- A block with one slice of lines. -/
def LBox (w : World) (g : Nat) (v : Value) : Prop := w.heap[g]? = some (.cells #[v] 27)
theorem LBox.lt {w : World} {g : Nat} {x : Value} (h : LBox w g x) : g < w.heap.size := by
  rcases Nat.lt_or_ge g w.heap.size with h1 | h1
  · exact h1
  · unfold LBox at h; rw [Array.getElem?_eq_none h1] at h; cases h
theorem LBox.newAt {w : World} {g : Nat} {x : Value} {o : Obj} (h : w.heap.size = g) (ho : o = .cells #[x] 27) : LBox (w.alloc o) g x := by subst h; subst ho; exact heap_alloc_new w _
theorem LBox.alloc {w : World} {g : Nat} {x : Value} (h : LBox w g x) (o : Obj) : LBox (w.alloc o) g x := (Below.heap_alloc w o g h.lt).trans h
theorem LBox.drew {w : World} {g : Nat} {x : Value} (h : LBox w g x) : LBox w.drew g x := h
theorem LBox.drewN {w : World} {g : Nat} {x : Value} (h : LBox w g x) (n : Nat) : LBox (w.drewN n) g x := h
theorem LBox.below {w w1 : World} {g : Nat} {x : Value} (h : LBox w g x) (b : Below w.heap.size w w1) : LBox w1 g x := (b.block g h.lt).trans h
theorem LBox.cell {w : World} {g : Nat} {x : Value} (h : LBox w g x) : w.cell? ⟨g, 0, none⟩ = some x := (cell_of_row w g 0 _ _ _ h).trans rfl

theorem mem3 (x : A3) (i : Int) : decide (i ∈ [x.a, x.b, x.c]) = inL x i := by
  rw [Bool.eq_iff_iff]
  unfold inL
  simp only [decide_eq_true_eq, List.mem_cons, List.not_mem_nil, or_false]
  omega
/-- The place of the first line of which P is true, or -1. -/
def posP {α : Type} (P : α → Bool) (l : List α) : Int := if l.any P = true then (((l.takeWhile fun x => !P x).length : Nat) : Int) else -1
theorem posP_at {α : Type} {P : α → Bool} : ∀ {l : List α} {k : Nat} {x : α}, l[k]? = some x → P x = true → (∀ (j : Nat) y, j < k → l[j]? = some y → P y = false) → (k : Int) = posP P l
  | [], k, x, h, _, _ => by simp at h
  | y :: r, 0, x, h, hp, _ => by
    obtain rfl : y = x := by simpa using h
    simp [posP, hp]
  | y :: r, k + 1, x, h, hp, hu => by
    have h0 := hu 0 y (by omega) rfl
    have ih := posP_at (l := r) (k := k) (by simpa using h) hp (fun j z hj hz => hu (j + 1) z (by omega) (by simpa using hz))
    unfold posP at ih ⊢
    have ha : r.any P = true := List.any_eq_true.2 ⟨x, List.mem_of_getElem? (by simpa using h), hp⟩
    rw [if_pos ha] at ih
    rw [if_pos (by simp [ha]), List.takeWhile_cons, if_pos (by simp [h0]), List.length_cons]
    omega
theorem posP_none {α : Type} {P : α → Bool} {l : List α} (hu : ∀ (j : Nat) y, l[j]? = some y → P y = false) : -1 = posP P l := by
  unfold posP
  rw [if_neg]
  intro h
  obtain ⟨x, hx, hp⟩ := List.any_eq_true.1 h
  obtain ⟨k, hk⟩ := List.mem_iff_getElem?.1 hx
  rw [hu k x hk] at hp; cases hp
theorem posP_nn {α : Type} {P : α → Bool} {l : List α} : decide (0 ≤ posP P l) = l.any P := by
  unfold posP
  cases h : l.any P <;> simp
theorem posP_bd {α : Type} (P : α → Bool) (l : List α) : -1 ≤ posP P l ∧ posP P l ≤ l.length := by
  unfold posP
  have := (List.takeWhile_sublist (fun x => !P x) (l := l)).length_le
  split <;> omega

set_option maxRecDepth 100000 in
set_option maxHeartbeats 2000000 in
theorem index_fun3 (f : FuncId) (q : Value) (P : A3 → Bool) (l : List A3) (p : Option Addr) (n c : Nat) (w : World) (hn : l.length = n) (hl : n ≤ 1000000000) (hr : Rd w p (A3.flat l))
    (hcf : ∀ (args : Array Value) (w : World), (callFunc f args).run Try.prog w = .ok (.enter f args) w)
    (hC : ∀ (x : A3) (w' : World), Below w.heap.size w w' → Calls Try.prog f #[x.val, q] w' fun e w2 => e = .returned (.bool (P x)) ∧ Below w'.heap.size w' w2) :
    Calls Try.prog 41 #[.slice p n c, .func (.func f) #[] #[q]] w fun e w' => e = .returned (.int .i64 (posP P l)) ∧ Below w.heap.size w w' := by
  have HN := Lib.hid hn
  have HR := Lib.hid hr
  have HC := Lib.hid hC
  clear hn hr hC
  go_enter Try.func41, Try.ntmps41
  go_wp2_with fail
  go_loopw [5, 8] (fun _ i wr => ∃ k : Nat, k ≤ n ∧ i = .int .i64 k ∧ Hid (∀ (j : Nat) y, j < k → l[j]? = some y → P y = false) ∧ Hid (Below w.heap.size w wr)) (fun _ i _ => n - (intOf i).toNat)
  case atStart => exact ⟨0, Nat.zero_le _, rfl, Lib.hid (fun j y h => by omega), Lib.hid (Below.refl _ _)⟩
  case round =>
    obtain ⟨k, hk, rfl, HU, HB⟩ := hrel
    by_cases hlt : k < n
    · obtain ⟨b, o, x, rfl, hb, hx, c0, c1, c2⟩ := (HR.out.below HB.out).aA3 (k := k) (by rw [HN.out]; exact hlt)
      have HX := Lib.hid hx
      clear hx
      have m0 : (0 : Int) ≤ (k : Int) := by omega
      have m1 : (k : Int) < (n : Int) := by omega
      go_wp2_with fail
      refine (HC.out x _ HB.out).mono ?_
      rintro e w1 ⟨rfl, b⟩
      have Sw1 := Lib.hid b.size
      have HB := Lib.hid (chain0 (w := w) (by repeat (first | with_reducible exact Below.refl _ _ | with_reducible exact HB.out | with_reducible apply Below.drew | with_reducible apply bdN | with_reducible refine Below.alloc ?_ (by first | exact Nat.le_refl _ | with_reducible exact HB.out.size | omega | (simp; done) | (simp; omega) | (have := HB.out.size; simp at *; omega)) _ | with_reducible refine Below.setCell ?_ (by first | exact Nat.le_refl _ | with_reducible exact HB.out.size | omega | (simp; done) | (simp; omega) | (have := HB.out.size; simp at *; omega)) _)) b)
      clear b
      clear c0 c1 c2
      cases hs : P x
      · have HU1 := Lib.hid (show ∀ (j : Nat) y, j < k + 1 → l[j]? = some y → P y = false from fun j y hj hy => by
          rcases Nat.lt_or_ge j k with h | h
          · exact HU.out j y h hy
          · obtain rfl : j = k := by omega
            have h1 := HX.out; rw [hy] at h1; injection h1 with h1; subst h1; exact hs)
        go_wp2_with fail
        go_roundw
        case rel => exact ⟨k + 1, by omega, by go_num, HU1, HB⟩
        case measure => simp [intOf]; omega
      · have HP := Lib.hid (show (k : Int) = posP P l from posP_at HX.out hs HU.out)
        go_wp2_with fail
        go_ret
        exact ⟨ret_int HP.out, HB.out⟩
    · obtain rfl : k = n := by omega
      have HP := Lib.hid (show -1 = posP P l from posP_none (fun j y hy => HU.out j y (by rw [← HN.out]; exact (List.getElem?_eq_some_iff.1 hy).1) hy))
      go_wp2_with fail
      go_ret
      exact ⟨ret_int HP.out, HB.out⟩
end Go.Proofs.Ytnibkipepmakgaa.parting
