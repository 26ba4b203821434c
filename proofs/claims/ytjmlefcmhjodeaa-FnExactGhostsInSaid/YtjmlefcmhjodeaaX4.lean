/- Ghosts of a hand: mathematics. -/
import Derived.Test.YtjmlefcmhjodeaaXx
import Derived.Test.YtjmlefcmhjodeaaR6
namespace Go.Proofs.Ytjmlefcmhjodeaa.others
open Go.RowKit
open cards
set_option linter.unusedVariables false

/-- Have six cards the sum 0? -/
def z6 (x0 x1 x2 x3 x4 x5 : Cd) : Prop := (x0.a + x1.a + x2.a + x3.a + x4.a + x5.a) % 3 = 0 ∧ (x0.b + x1.b + x2.b + x3.b + x4.b + x5.b) % 3 = 0 ∧ (x0.c + x1.c + x2.c + x3.c + x4.c + x5.c) % 3 = 0 ∧ (x0.d + x1.d + x2.d + x3.d + x4.d + x5.d) % 3 = 0
def dropAt (l : List Cd) (k : Nat) : List Cd := l.take k ++ l.drop (k + 1)
/-- Can cards be parted into pairs whose third cards are a line with others? -/
def thB : Nat → List Cd → List Cd → Bool
  | 0, _, T => (match T with | [a, b, c] => line a b c | _ => false)
  | r + 1, h, T => (List.range h.length).any fun k => decide (1 ≤ k) && (match h[0]?, h[k]? with | some x, some y => thB r (dropAt (dropAt h k) 0) (T ++ [third x y]) | _, _ => false)
theorem third_line {x0 x1 x2 x3 x4 x5 : Cd} (h0 : x0.ok = true) (h1 : x1.ok = true) (h2 : x2.ok = true) (h3 : x3.ok = true) (h4 : x4.ok = true) (h5 : x5.ok = true) :
    line (third x0 x1) (third x2 x3) (third x4 x5) = true ↔ z6 x0 x1 x2 x3 x4 x5 ∧ same (third x0 x1) (third x2 x3) = false := by
  obtain ⟨⟨a1, a2⟩, ⟨a3, a4⟩, ⟨a5, a6⟩, a7, a8⟩ := Cd.bd h0
  obtain ⟨⟨b1, b2⟩, ⟨b3, b4⟩, ⟨b5, b6⟩, b7, b8⟩ := Cd.bd h1
  obtain ⟨⟨c1, c2⟩, ⟨c3, c4⟩, ⟨c5, c6⟩, c7, c8⟩ := Cd.bd h2
  obtain ⟨⟨d1, d2⟩, ⟨d3, d4⟩, ⟨d5, d6⟩, d7, d8⟩ := Cd.bd h3
  obtain ⟨⟨e1, e2⟩, ⟨e3, e4⟩, ⟨e5, e6⟩, e7, e8⟩ := Cd.bd h4
  obtain ⟨⟨f1, f2⟩, ⟨f3, f4⟩, ⟨f5, f6⟩, f7, f8⟩ := Cd.bd h5
  unfold line z6
  rw [Bool.and_eq_true, Bool.not_eq_true']
  have e : same (third (third x0 x1) (third x2 x3)) (third x4 x5) = true ↔ (x0.a + x1.a + x2.a + x3.a + x4.a + x5.a) % 3 = 0 ∧ (x0.b + x1.b + x2.b + x3.b + x4.b + x5.b) % 3 = 0 ∧ (x0.c + x1.c + x2.c + x3.c + x4.c + x5.c) % 3 = 0 ∧ (x0.d + x1.d + x2.d + x3.d + x4.d + x5.d) % 3 = 0 := by
    rw [same_t]
    simp only [third]
    constructor
    · rintro ⟨g1, g2, g3, g4⟩
      exact ⟨by omega, by omega, by omega, by omega⟩
    · rintro ⟨g1, g2, g3, g4⟩
      exact ⟨by omega, by omega, by omega, by omega⟩
  rw [e]
  exact ⟨fun h => ⟨h.2, h.1⟩, fun h => ⟨h.2, h.1⟩⟩
/-- Two partings cannot both have one third card twice. -/
theorem not_both {x0 x1 x2 x3 : Cd} (h1 : x1.ok = true) (h2 : x2.ok = true) (hne : x1 ≠ x2) (e1 : same (third x0 x1) (third x2 x3) = true) (e2 : same (third x0 x2) (third x1 x3) = true) : False :=
  not_two (a := x0) (b := x1) (c := x2) (d := x3) h1 h2 hne e1 e2
theorem z6_swap {x0 x1 x2 x3 x4 x5 : Cd} (h : z6 x0 x1 x2 x3 x4 x5) : z6 x0 x2 x1 x3 x4 x5 := by
  unfold z6 at *
  omega
/-- Six different cards are a ghost just if their sum is 0. -/
theorem ghost_if {x0 x1 x2 x3 x4 x5 : Cd} (h0 : x0.ok = true) (h1 : x1.ok = true) (h2 : x2.ok = true) (h3 : x3.ok = true) (h4 : x4.ok = true) (h5 : x5.ok = true) (hne : x1 ≠ x2) (h : z6 x0 x1 x2 x3 x4 x5) : thB 3 [x0, x1, x2, x3, x4, x5] [] = true := by
  cases hs : same (third x0 x1) (third x2 x3)
  · have hl := (third_line h0 h1 h2 h3 h4 h5).2 ⟨h, hs⟩
    refine List.any_eq_true.2 ⟨1, by simp, ?_⟩
    show thB 2 [x2, x3, x4, x5] [third x0 x1] = true
    refine List.any_eq_true.2 ⟨1, by simp, ?_⟩
    show thB 1 [x4, x5] [third x0 x1, third x2 x3] = true
    refine List.any_eq_true.2 ⟨1, by simp, ?_⟩
    exact hl
  · cases hs2 : same (third x0 x2) (third x1 x3)
    · have hl := (third_line h0 h2 h1 h3 h4 h5).2 ⟨z6_swap h, hs2⟩
      refine List.any_eq_true.2 ⟨2, by simp, ?_⟩
      show thB 2 [x1, x3, x4, x5] [third x0 x2] = true
      refine List.any_eq_true.2 ⟨1, by simp, ?_⟩
      show thB 1 [x4, x5] [third x0 x2, third x1 x3] = true
      refine List.any_eq_true.2 ⟨1, by simp, ?_⟩
      exact hl
    · exact (not_both h1 h2 hne hs hs2).elim
/-- Sums of the traits of cards. -/
def sT (f : Cd → Int) (l : List Cd) : Int := (l.map f).foldr (· + ·) 0
theorem sT_append (f : Cd → Int) (a b : List Cd) : sT f (a ++ b) = sT f a + sT f b := by
  unfold sT
  induction a with
  | nil => simp
  | cons x r ih => simp only [List.cons_append, List.map_cons, List.foldr_cons]; omega
theorem sT_drop (f : Cd → Int) {l : List Cd} {k : Nat} {x : Cd} (h : l[k]? = some x) : sT f (dropAt l k) + f x = sT f l := by
  have e : l = l.take k ++ [x] ++ l.drop (k + 1) := by
    conv => lhs; rw [← List.take_append_drop (k + 1) l]
    rw [take_snoc h]
  conv => rhs; rw [e]
  unfold dropAt
  rw [sT_append, sT_append, sT_append]
  have : sT f [x] = f x := by simp [sT]
  omega
theorem dropAt_get {l : List Cd} {k : Nat} {x : Cd} (hk : 1 ≤ k) (h : l[0]? = some x) : (dropAt l k)[0]? = some x := by
  unfold dropAt
  have hl := (List.getElem?_eq_some_iff.1 h).1
  rw [List.getElem?_append_left (by rw [List.length_take]; omega), List.getElem?_take_of_lt (by omega)]
  exact h
theorem th_sum (f : Cd → Int) (hf : ∀ x y : Cd, (f (third x y) + f x + f y) % 3 = 0) (hl : ∀ x y z : Cd, line x y z = true → (f x + f y + f z) % 3 = 0) : ∀ (r : Nat) (h T : List Cd), h.length = 2 * r → thB r h T = true → (sT f T - sT f h) % 3 = 0
  | 0, h, T, hn, ht => by
    have : h = [] := List.length_eq_zero_iff.1 (by omega)
    subst this
    unfold thB at ht
    split at ht
    · have := hl _ _ _ ht
      simp [sT]; omega
    · cases ht
  | r + 1, h, T, hn, ht => by
    unfold thB at ht
    obtain ⟨k, hk, h1⟩ := List.any_eq_true.1 ht
    rw [Bool.and_eq_true] at h1
    obtain ⟨h2, h3⟩ := h1
    have h2 := of_decide_eq_true h2
    have hk := List.mem_range.1 hk
    obtain ⟨x, hx⟩ : ∃ x, h[0]? = some x := ⟨_, List.getElem?_eq_getElem (by omega)⟩
    obtain ⟨y, hy⟩ : ∃ y, h[k]? = some y := ⟨_, List.getElem?_eq_getElem hk⟩
    rw [hx, hy] at h3
    simp only at h3
    have hlen : (dropAt (dropAt h k) 0).length = 2 * r := by unfold dropAt; simp; omega
    have ih := th_sum f hf hl r _ _ hlen h3
    have e1 := sT_drop f hy
    have e2 := sT_drop f (dropAt_get h2 hx)
    have e3 := hf x y
    rw [sT_append] at ih
    have e4 : sT f [third x y] = f (third x y) := by simp [sT]
    omega
theorem ghost_only {x0 x1 x2 x3 x4 x5 : Cd} (h : thB 3 [x0, x1, x2, x3, x4, x5] [] = true) : z6 x0 x1 x2 x3 x4 x5 := by
  have k : ∀ x y z : Cd, line x y z = true → same (third x y) z = true := fun x y z h => by unfold line at h; rw [Bool.and_eq_true] at h; exact h.2
  have ha := th_sum Cd.a (fun x y => by simp only [third]; omega) (fun x y z h => by have := (same_t.1 (k x y z h)).1; simp only [third] at this; omega) 3 _ _ rfl h
  have hb := th_sum Cd.b (fun x y => by simp only [third]; omega) (fun x y z h => by have := (same_t.1 (k x y z h)).2.1; simp only [third] at this; omega) 3 _ _ rfl h
  have hc := th_sum Cd.c (fun x y => by simp only [third]; omega) (fun x y z h => by have := (same_t.1 (k x y z h)).2.2.1; simp only [third] at this; omega) 3 _ _ rfl h
  have hd := th_sum Cd.d (fun x y => by simp only [third]; omega) (fun x y z h => by have := (same_t.1 (k x y z h)).2.2.2; simp only [third] at this; omega) 3 _ _ rfl h
  simp only [sT, List.map_cons, List.map_nil, List.foldr_cons, List.foldr_nil] at ha hb hc hd
  unfold z6
  exact ⟨by omega, by omega, by omega, by omega⟩

/-! Six places in ascending order. -/
def lex6 (x y : A6) : Prop := x.a < y.a ∨ (x.a = y.a ∧ (x.b < y.b ∨ (x.b = y.b ∧ (x.c < y.c ∨ (x.c = y.c ∧ (x.d < y.d ∨ (x.d = y.d ∧ (x.e < y.e ∨ (x.e = y.e ∧ x.f < y.f)))))))))
theorem lex6_irr (x : A6) : ¬ lex6 x x := by unfold lex6; omega
theorem lex6_asy (x y : A6) (h : lex6 x y) : ¬ lex6 y x := by unfold lex6 at *; omega
def f6 (x : A6) : List Int := [x.a, x.b, x.c, x.d, x.e, x.f]
/-- Are these the places of six cards with the sum 0, in ascending order? -/
def gOK (l : List Cd) (g : A6) : Prop := ∃ (i0 i1 i2 i3 i4 i5 : Nat) (x0 x1 x2 x3 x4 x5 : Cd), i0 < i1 ∧ i1 < i2 ∧ i2 < i3 ∧ i3 < i4 ∧ i4 < i5 ∧ i5 < l.length ∧ g = ⟨i0, i1, i2, i3, i4, i5⟩ ∧
  l[i0]? = some x0 ∧ l[i1]? = some x1 ∧ l[i2]? = some x2 ∧ l[i3]? = some x3 ∧ l[i4]? = some x4 ∧ l[i5]? = some x5 ∧ z6 x0 x1 x2 x3 x4 x5
/-- What a place holds of a trait. -/
def pT (l : List Cd) (f : Cd → Int) (i : Int) : Int := match l[i.toNat]? with
  | some x => f x
  | none => 0
theorem pT_at {l : List Cd} {f : Cd → Int} {i : Nat} {x : Cd} (h : l[i]? = some x) : pT l f (i : Int) = f x := by
  unfold pT
  simp only [Int.toNat_natCast, h]
def sumI (f : Int → Int) (l : List Int) : Int := (l.map f).foldr (· + ·) 0
theorem sumI_perm (f : Int → Int) {a b : List Int} (h : a.Perm b) : sumI f a = sumI f b := by
  unfold sumI
  induction h with
  | nil => rfl
  | cons x _ ih => simp only [List.map_cons, List.foldr_cons]; omega
  | swap x y l => simp only [List.map_cons, List.foldr_cons]; omega
  | trans _ _ ih1 ih2 => exact ih1.trans ih2
/-- The six places of three pairs, as a list. -/
def p6 (p q r : A2) : List Int := [p.a, p.b, q.a, q.b, r.a, r.b]
section
variable {l : List Cd} (hs : sorted l) (hok : l.all Cd.ok = true)
/-- Three pairs without a common place whose third cards are a line: the places in order are those of cards with the sum 0. -/
theorem prog_ok {p q r : A2} {g : A6} (hp : p ∈ pAll l.length) (hq : q ∈ pAll l.length) (hr : r ∈ pAll l.length) (hth : th l r = third (th l p) (th l q)) (hnd : (p6 p q r).Pairwise (· ≠ ·)) (hg : (f6 g).Perm (p6 p q r)) (ha : (f6 g).Pairwise (· ≤ ·)) : gOK l g := by
  obtain ⟨a, b, ab1, ab2, rfl⟩ := pAll_mem.1 hp
  obtain ⟨c, d, cd1, cd2, rfl⟩ := pAll_mem.1 hq
  obtain ⟨e, f, ef1, ef2, rfl⟩ := pAll_mem.1 hr
  obtain ⟨xa, hxa⟩ : ∃ x, l[a]? = some x := ⟨_, List.getElem?_eq_getElem (by omega)⟩
  obtain ⟨xb, hxb⟩ : ∃ x, l[b]? = some x := ⟨_, List.getElem?_eq_getElem (by omega)⟩
  obtain ⟨xc, hxc⟩ : ∃ x, l[c]? = some x := ⟨_, List.getElem?_eq_getElem (by omega)⟩
  obtain ⟨xd, hxd⟩ : ∃ x, l[d]? = some x := ⟨_, List.getElem?_eq_getElem (by omega)⟩
  obtain ⟨xe, hxe⟩ : ∃ x, l[e]? = some x := ⟨_, List.getElem?_eq_getElem (by omega)⟩
  obtain ⟨xf, hxf⟩ : ∃ x, l[f]? = some x := ⟨_, List.getElem?_eq_getElem (by omega)⟩
  rw [th_at hxa hxb, th_at hxc hxd, th_at hxe hxf] at hth
  have hmem : ∀ i : Int, i ∈ f6 g → ∃ k : Nat, i = k ∧ k < l.length := by
    intro i hi
    have := hg.mem_iff.1 hi
    simp only [p6, List.mem_cons, List.not_mem_nil, or_false] at this
    rcases this with rfl | rfl | rfl | rfl | rfl | rfl
    · exact ⟨a, rfl, by omega⟩
    · exact ⟨b, rfl, by omega⟩
    · exact ⟨c, rfl, by omega⟩
    · exact ⟨d, rfl, by omega⟩
    · exact ⟨e, rfl, by omega⟩
    · exact ⟨f, rfl, by omega⟩
  have hndg : (f6 g).Pairwise (· ≠ ·) := (hg.pairwise_iff (fun {a b} h => Ne.symm h)).2 hnd
  obtain ⟨i0, i1, i2, i3, i4, i5⟩ := g
  obtain ⟨k0, rfl, l0⟩ := hmem i0 (by simp [f6])
  obtain ⟨k1, rfl, l1⟩ := hmem i1 (by simp [f6])
  obtain ⟨k2, rfl, l2⟩ := hmem i2 (by simp [f6])
  obtain ⟨k3, rfl, l3⟩ := hmem i3 (by simp [f6])
  obtain ⟨k4, rfl, l4⟩ := hmem i4 (by simp [f6])
  obtain ⟨k5, rfl, l5⟩ := hmem i5 (by simp [f6])
  obtain ⟨x0, hx0⟩ : ∃ x, l[k0]? = some x := ⟨_, List.getElem?_eq_getElem l0⟩
  obtain ⟨x1, hx1⟩ : ∃ x, l[k1]? = some x := ⟨_, List.getElem?_eq_getElem l1⟩
  obtain ⟨x2, hx2⟩ : ∃ x, l[k2]? = some x := ⟨_, List.getElem?_eq_getElem l2⟩
  obtain ⟨x3, hx3⟩ : ∃ x, l[k3]? = some x := ⟨_, List.getElem?_eq_getElem l3⟩
  obtain ⟨x4, hx4⟩ : ∃ x, l[k4]? = some x := ⟨_, List.getElem?_eq_getElem l4⟩
  obtain ⟨x5, hx5⟩ : ∃ x, l[k5]? = some x := ⟨_, List.getElem?_eq_getElem l5⟩
  simp only [f6, List.pairwise_cons, List.mem_cons, List.not_mem_nil, or_false, forall_eq_or_imp, forall_eq] at ha hndg
  have key : ∀ F : Cd → Int, F x0 + F x1 + F x2 + F x3 + F x4 + F x5 = F xa + F xb + F xc + F xd + F xe + F xf := by
    intro F
    have := sumI_perm (pT l F) hg
    simp only [sumI, f6, p6, List.map_cons, List.map_nil, List.foldr_cons, List.foldr_nil, pT_at hx0, pT_at hx1, pT_at hx2, pT_at hx3, pT_at hx4, pT_at hx5, pT_at hxa, pT_at hxb, pT_at hxc, pT_at hxd, pT_at hxe, pT_at hxf] at this
    omega
  refine ⟨k0, k1, k2, k3, k4, k5, x0, x1, x2, x3, x4, x5, by omega, by omega, by omega, by omega, by omega, l5, rfl, hx0, hx1, hx2, hx3, hx4, hx5, ?_⟩
  have e := same_iff.2 hth
  rw [same_t] at e
  simp only [third] at e
  have ka := key Cd.a
  have kb := key Cd.b
  have kc := key Cd.c
  have kd := key Cd.d
  unfold z6
  exact ⟨by omega, by omega, by omega, by omega⟩
include hs hok
/-- Each ghost is found: by pairs in the program's order. -/
theorem ok_prog {g : A6} (h : gOK l g) : ∃ p q r : A2, p ∈ pAll l.length ∧ q ∈ pAll l.length ∧ r ∈ pAll l.length ∧ pLt q p ∧ same (th l p) (th l q) = false ∧ th l r = third (th l p) (th l q) ∧ (p6 p q r).Pairwise (· ≠ ·) ∧ (f6 g).Perm (p6 p q r) ∧ (f6 g).Pairwise (· ≤ ·) := by
  obtain ⟨i0, i1, i2, i3, i4, i5, x0, x1, x2, x3, x4, x5, h01, h12, h23, h34, h45, h5, rfl, hx0, hx1, hx2, hx3, hx4, hx5, hz⟩ := h
  have o0 := ok_at hok hx0
  have o1 := ok_at hok hx1
  have o2 := ok_at hok hx2
  have o3 := ok_at hok hx3
  have o4 := ok_at hok hx4
  have o5 := ok_at hok hx5
  have hasc : (f6 (⟨i0, i1, i2, i3, i4, i5⟩ : A6)).Pairwise (· ≤ ·) := by
    simp only [f6, List.pairwise_cons, List.mem_cons, List.not_mem_nil, or_false, forall_eq_or_imp, forall_eq]
    simp; omega
  have tsum : ∀ {y0 y1 y2 y3 y4 y5 : Cd}, y0.ok = true → y1.ok = true → y2.ok = true → y3.ok = true → y4.ok = true → y5.ok = true → z6 y0 y1 y2 y3 y4 y5 → third y4 y5 = third (third y2 y3) (third y0 y1) := by
    intro y0 y1 y2 y3 y4 y5 p0 p1 p2 p3 p4 p5 hz
    apply same_iff.1
    rw [same_t]
    simp only [third]
    unfold z6 at hz
    exact ⟨by omega, by omega, by omega, by omega⟩
  have hne12 : x1 ≠ x2 := hand_ne hs h12 hx1 hx2
  cases hsm : same (third x2 x3) (third x0 x1)
  · refine ⟨⟨i2, i3⟩, ⟨i0, i1⟩, ⟨i4, i5⟩, pAll_mem.2 ⟨i2, i3, h23, by omega, rfl⟩, pAll_mem.2 ⟨i0, i1, h01, by omega, rfl⟩, pAll_mem.2 ⟨i4, i5, h45, h5, rfl⟩, .inl (by simp only; omega), by rw [th_at hx2 hx3, th_at hx0 hx1]; exact hsm, by rw [th_at hx2 hx3, th_at hx0 hx1, th_at hx4 hx5]; exact tsum o0 o1 o2 o3 o4 o5 hz, ?_, ?_, hasc⟩
    · simp only [p6, List.pairwise_cons, List.mem_cons, List.not_mem_nil, or_false, forall_eq_or_imp, forall_eq]
      simp; omega
    · have h1 : ([(i0 : Int), i1] ++ [(i2 : Int), i3]).Perm ([(i2 : Int), i3] ++ [(i0 : Int), i1]) := List.perm_append_comm
      exact h1.append_right [(i4 : Int), i5]
  · have hs2 : same (third x1 x3) (third x0 x2) = false := by
      rw [Bool.eq_false_iff]; intro e
      exact not_both (x0 := x0) (x1 := x1) (x2 := x2) (x3 := x3) o1 o2 hne12 (same_iff.2 (same_iff.1 hsm).symm) (same_iff.2 (same_iff.1 e).symm)
    refine ⟨⟨i1, i3⟩, ⟨i0, i2⟩, ⟨i4, i5⟩, pAll_mem.2 ⟨i1, i3, by omega, by omega, rfl⟩, pAll_mem.2 ⟨i0, i2, by omega, by omega, rfl⟩, pAll_mem.2 ⟨i4, i5, h45, h5, rfl⟩, .inl (by simp only; omega), by rw [th_at hx1 hx3, th_at hx0 hx2]; exact hs2, by rw [th_at hx1 hx3, th_at hx0 hx2, th_at hx4 hx5]; exact tsum o0 o2 o1 o3 o4 o5 (z6_swap hz), ?_, ?_, hasc⟩
    · simp only [p6, List.pairwise_cons, List.mem_cons, List.not_mem_nil, or_false, forall_eq_or_imp, forall_eq]
      simp; omega
    · have h1 : ([(i0 : Int), i1, i2, i3]).Perm [(i1 : Int), i3, i0, i2] := by
        have a1 : ([(i0 : Int), i1, i2, i3]).Perm [(i1 : Int), i0, i2, i3] := List.Perm.swap _ _ _
        have a2 : ([(i0 : Int), i2, i3]).Perm [(i3 : Int), i0, i2] := by
          have : ([(i0 : Int), i2] ++ [(i3 : Int)]).Perm ([(i3 : Int)] ++ [(i0 : Int), i2]) := List.perm_append_comm
          exact this
        exact a1.trans (List.Perm.cons _ a2)
      exact h1.append_right [(i4 : Int), i5]
end
end Go.Proofs.Ytjmlefcmhjodeaa.others
