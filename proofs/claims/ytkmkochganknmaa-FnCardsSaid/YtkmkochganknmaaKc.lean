/- Draws: a card, and one that is often near another one. -/
import Derived.Test.YtkmkochganknmaaKb
import Derived.Test.YtkmkochganknmaaC3
import Derived.Deep.DeepCutAuto
import Derived.Deep.RegionLaw
namespace Go.Proofs.Ytkmkochganknmaa.draw
open Go.RowKit
open cards
set_option linter.unusedVariables false

def wf4 (x : Cd) : Prop := (Lit.int .i64 x.a).wf = true ∧ (Lit.int .i64 x.b).wf = true ∧ (Lit.int .i64 x.c).wf = true ∧ (Lit.int .i64 x.d).wf = true
theorem wf4_ok {x : Cd} (h : x.ok = true) : wf4 x := by
  obtain ⟨⟨x1, x2⟩, ⟨x3, x4⟩, ⟨x5, x6⟩, x7, x8⟩ := Cd.bd h
  exact ⟨wf_small x1 (by omega), wf_small x3 (by omega), wf_small x5 (by omega), wf_small x7 (by omega)⟩
theorem Cur.lt {w : World} {g : Nat} {p : Option Addr} {n c : Nat} {l : List Int} {N : Nat} (h : Cur w g p n c l N) : g < w.heap.size := by
  obtain ⟨a, s, hb, _⟩ := h
  exact hb.lt
theorem Cur.below {w w1 : World} {g : Nat} {p : Option Addr} {n c : Nat} {l : List Int} {N : Nat} (h : Cur w g p n c l N) (b : Below w.heap.size w w1) : Cur w1 g p n c l N := by
  obtain ⟨a, s, hb, h0, h1, hr, h2⟩ := h
  exact ⟨a, s, hb.below b, h0, h1, Rd.below hr b, h2⟩
theorem Cur.alloc {w : World} {g : Nat} {p : Option Addr} {n c : Nat} {l : List Int} {N : Nat} (h : Cur w g p n c l N) (o : Obj) : Cur (w.alloc o) g p n c l N := h.below ((Below.refl _ _).alloc (Nat.le_refl _) o)
theorem Cur.drew {w : World} {g : Nat} {p : Option Addr} {n c : Nat} {l : List Int} {N : Nat} (h : Cur w g p n c l N) : Cur w.drew g p n c l N := h
/-- Where the code lies. -/
def Far (p : Option Addr) (n B : Nat) : Prop := 0 < n → ∀ q, p = some q → q.block < B
theorem Cur.far {w : World} {g : Nat} {p : Option Addr} {n c : Nat} {l : List Int} {N : Nat} (h : Cur w g p n c l N) : Far p n w.heap.size := fun h0 q e => by
  obtain ⟨a, s, hb, _, _, hr, hl, _, hd⟩ := h
  obtain ⟨b, o, e2, hb, _⟩ := hr (by simp; omega)
  rw [e2] at e
  cases e
  exact hb
theorem Cur.by_ {w w1 : World} {g g2 : Nat} {p : Option Addr} {n c : Nat} {l : List Int} {N : Nat} (h : Cur w g p n c l N) (hG : w.grownBy w1 (some g2)) (hne : g < g2) (hf : Far p n g2) : Cur w1 g p n c l N := by
  obtain ⟨a, s, hb, h0, h1, hr, hl, h2⟩ := h
  exact ⟨a, s, (hG.block g hb.lt (fun e => by injection e with e; omega)).trans hb, h0, h1, Rd.grown hr hG (fun hp q e e2 => by have := hf (by simp at hp; omega) q e; omega), hl, h2⟩
theorem cdAt_okC {n : Int} (h0 : 0 ≤ n) (h1 : n ≤ 80) : (cdAt n).ok = true := Cd.mk_ok (by unfold cdAt; simp only; omega)
theorem Box.by_ {w w1 : World} {g m : Nat} {x : Cd} (h : Box w g x) (hg : w.grownBy w1 (some m)) (hne : m ≠ g) : Box w1 g x :=
  (hg.block g (Box.lt h) (fun e => hne (by cases e; rfl))).trans h

theorem grown_fresh {a w w1 : World} {g m : Nat} (h : a.grownBy w (some g)) (k : w.grownBy w1 (some m)) (hm : a.heap.size ≤ m) : a.grownBy w1 (some g) :=
  ⟨k.os.trans h.os, k.tape.trans h.tape, k.output.trans h.output, Nat.le_trans h.size k.size, fun i hi hr => (k.block i (Nat.lt_of_lt_of_le hi h.size) (fun e => by injection e with e; omega)).trans (h.block i hi hr)⟩
theorem grown_set4 (w : World) (g : Nat) (x : Cd) : w.grownBy ((((w.setCell ⟨g, 0, none⟩ (.int .i64 x.a)).setCell ⟨g, 1, none⟩ (.int .i64 x.b)).setCell ⟨g, 2, none⟩ (.int .i64 x.c)).setCell ⟨g, 3, none⟩ (.int .i64 x.d)) (some g) :=
  (((grown_set w g 0 _).trans (grown_set _ g 1 _)).trans (grown_set _ g 2 _)).trans (grown_set _ g 3 _)
theorem load_cardC {w : World} {g : Nat} {x : Cd} (h : Box w g x) : (loadVar 24 ⟨g, 0, none⟩).run Try.prog w = .ok x.val w :=
  run_loadVar_row w g 24 24 _ (0, 0) _ h Try.underlying24 rfl (by kernel_rfl)
theorem res_cardC {fn : Func} {i : Tmp} (hf : fn.results = #[.cell i 24]) {tmps : Array Value} {w : World} {g : Nat} {m : Cd} (ht : tmps.getD i undef = .pointer (some ⟨g, 0, none⟩)) (h : Box w g m) :
    (results fn tmps).run Try.prog w = .ok m.val w := by
  have hl := load_cardC h
  rw [Array.getD_eq_getD_getElem?] at ht
  simp only [results, hf]
  simp [Sem.run_bind, ht, asAddr, hl]
theorem Box.put0 {w : World} {g : Nat} {x : Cd} (h : Box w g x) (a : Int) : Box (w.setCell ⟨g, 0, none⟩ (.int .i64 a)) g ⟨a, x.b, x.c, x.d⟩ := by
  unfold Box at h ⊢; rw [heap_setCell_same _ g _ _ _ _ h]; rfl
theorem Box.put1 {w : World} {g : Nat} {x : Cd} (h : Box w g x) (a : Int) : Box (w.setCell ⟨g, 1, none⟩ (.int .i64 a)) g ⟨x.a, a, x.c, x.d⟩ := by
  unfold Box at h ⊢; rw [heap_setCell_same _ g _ _ _ _ h]; rfl
theorem Box.put2 {w : World} {g : Nat} {x : Cd} (h : Box w g x) (a : Int) : Box (w.setCell ⟨g, 2, none⟩ (.int .i64 a)) g ⟨x.a, x.b, a, x.d⟩ := by
  unfold Box at h ⊢; rw [heap_setCell_same _ g _ _ _ _ h]; rfl
theorem Box.put3 {w : World} {g : Nat} {x : Cd} (h : Box w g x) (a : Int) : Box (w.setCell ⟨g, 3, none⟩ (.int .i64 a)) g ⟨x.a, x.b, x.c, a⟩ := by
  unfold Box at h ⊢; rw [heap_setCell_same _ g _ _ _ _ h]; rfl
/-- A number put at one of a card's four places. -/
def putAt (x : Cd) (a : Int) : Nat → Cd
  | 0 => ⟨a, x.b, x.c, x.d⟩
  | 1 => ⟨x.a, a, x.c, x.d⟩
  | 2 => ⟨x.a, x.b, a, x.d⟩
  | _ => ⟨x.a, x.b, x.c, a⟩
theorem Box.put {w : World} {g : Nat} {x : Cd} (h : Box w g x) (a : Int) {k : Nat} (hk : k < 4) : Box (w.setCell ⟨g, k, none⟩ (.int .i64 a)) g (putAt x a k) := by
  rcases (show k = 0 ∨ k = 1 ∨ k = 2 ∨ k = 3 by omega) with rfl | rfl | rfl | rfl
  · exact Box.put0 h a
  · exact Box.put1 h a
  · exact Box.put2 h a
  · exact Box.put3 h a
theorem wf_put {x : Cd} (h : wf4 x) {a : Int} (ha : (Lit.int .i64 a).wf = true) (k : Nat) : wf4 (putAt x a k) := by
  obtain ⟨h1, h2, h3, h4⟩ := h
  unfold putAt
  split
  · exact ⟨ha, h2, h3, h4⟩
  · exact ⟨h1, ha, h3, h4⟩
  · exact ⟨h1, h2, ha, h4⟩
  · exact ⟨h1, h2, h3, ha⟩

set_option maxRecDepth 100000 in
set_option maxHeartbeats 4000000 in
theorem card_ (g : Nat) (p : Option Addr) (n c : Nat) (l : List Int) (N : Nat) (w : World) (hN : N ≤ 800000) (hm : n ≤ 1000000000) (h : Cur w g p n c l N) :
    Calls Try.prog 23 #[.pointer (some ⟨g, 0, none⟩)] w fun e w' => ∃ x : Cd, e = .returned x.val ∧ wf4 x ∧ Cur w' g p n c l (N + 8) ∧ w.grownBy w' (some g) := by
  have HF := Lib.hid h.far
  have HL := Lib.hid h.lt
  have HC := Lib.hid (h.alloc zero.obj)
  have HG := Lib.hid (World.grownBy_alloc w zero.obj (some g))
  have K2 := Lib.hid (Box.new w zero)
  clear h
  go_enter Try.func23, Try.ntmps23
  go_wp2_with fail
  refine (pick_ 81 g p n c l N _ (by omega) hm (by omega) (by omega) HC.out).mono ?_
  rintro e w1 ⟨b, rfl, b0, b1, C, G⟩
  have HC := Lib.hid C
  have HG := Lib.hid (HG.out.trans G)
  have K2 := Lib.hid (Box.by_ K2.out G (Nat.ne_of_lt HL.out))
  clear C G
  go_wp2_with fail
  refine (l2_at b _ b0 (by omega)).mono ?_
  rintro e w2 ⟨rfl, bl⟩
  have HC := Lib.hid (HC.out.below bl)
  have HG := Lib.hid (Lib.grownBy_below HG.out bl)
  have K2 := Lib.hid (Box.below K2.out bl)
  have HX := Lib.hid (cdAt_okC b0 (by omega))
  clear bl
  obtain ⟨x, hx⟩ : ∃ x, cdAt b = x := ⟨_, rfl⟩
  rw [hx] at HX
  simp only [hx]
  clear hx b0 b1
  go_wp2_with fail
  have K3 := Lib.hid (Box.new w2 x)
  have H23 : Hid (w.heap.size < w2.heap.size) := Lib.hid K2.out.lt
  have HC := Lib.hid (HC.out.alloc x.obj)
  have HG := Lib.hid (HG.out.trans (World.grownBy_alloc w2 x.obj (some g)))
  have K2 := Lib.hid (K2.out.alloc x.obj)
  refine (one_ 40 g p n c l (N + 2) _ (by omega) hm (by omega) (by omega) HC.out).mono ?_
  rintro e w3 ⟨o, rfl, C, G⟩
  have HC := Lib.hid C
  have HG := Lib.hid (HG.out.trans G)
  have K2 := Lib.hid (Box.by_ K2.out G (Nat.ne_of_lt HL.out))
  have K3 := Lib.hid (Box.by_ K3.out G (Nat.ne_of_lt (Nat.lt_trans HL.out H23.out)))
  clear C G
  cases o
  · obtain ⟨c0, c1, c2, c3⟩ := K3.out.cell
    obtain ⟨d0, d1, d2, d3⟩ := K2.out.cell
    have f2 := K2.out.frozen
    have z2 := K2.out.lt
    go_wp2_with fail
    have hG := grown_set4 w3 w.heap.size x
    try simp only [Exit.inBlock, Exit.then]
    show bodyPost _ _ _ _ _ _
    refine bodyPost_ret (res_cardC Try.results23 rfl (Box.set_ K2.out x)) rfl ?_
    exact ⟨x, rfl, wf4_ok HX.out, (HC.out.by_ hG HL.out HF.out).more (by omega), grown_fresh HG.out hG (Nat.le_refl _)⟩
  · go_wp2_with fail
    refine (pick_ 4 g p n c l (N + 2 + 2) _ (by omega) hm (by omega) (by omega) HC.out).mono ?_
    rintro e w4 ⟨k, rfl, k0, k1, C, G⟩
    have HC := Lib.hid C
    have HG := Lib.hid (HG.out.trans G)
    have K2 := Lib.hid (Box.by_ K2.out G (Nat.ne_of_lt HL.out))
    have K3 := Lib.hid (Box.by_ K3.out G (Nat.ne_of_lt (Nat.lt_trans HL.out H23.out)))
    clear C G
    obtain ⟨k, rfl⟩ : ∃ j : Nat, k = j := ⟨k.toNat, by omega⟩
    have hk : k < 4 := by omega
    go_wp2_with fail
    have HR := Lib.hid (Rd.newAt (w := w4) (t := 3) (g := w4.heap.size) rfl (show (#[.int .i64 (-1), .int .i64 3, .int .i64 4611686018427387904, .int .i64 (-9223372036854775808)] : Array Value).toList = nums [-1, 3, 4611686018427387904, -9223372036854775808] from rfl))
    have HC := Lib.hid (HC.out.alloc (.cells #[.int .i64 (-1), .int .i64 3, .int .i64 4611686018427387904, .int .i64 (-9223372036854775808)] 3))
    have HG := Lib.hid (HG.out.trans (World.grownBy_alloc w4 (.cells #[.int .i64 (-1), .int .i64 3, .int .i64 4611686018427387904, .int .i64 (-9223372036854775808)] 3) (some g)))
    have K2 := Lib.hid (K2.out.alloc (.cells #[.int .i64 (-1), .int .i64 3, .int .i64 4611686018427387904, .int .i64 (-9223372036854775808)] 3))
    have K3 := Lib.hid (K3.out.alloc (.cells #[.int .i64 (-1), .int .i64 3, .int .i64 4611686018427387904, .int .i64 (-9223372036854775808)] 3))
    have H4 : Hid (g < w4.heap.size) := Lib.hid (by have h1 := HC.out.lt; have h2 := HL.out; have h3 := HG.out.size; have h5 := K2.out.lt; have h6 := H23.out; have := K3.out.lt; simp at *; omega)
    refine (among_ [-1, 3, 4611686018427387904, -9223372036854775808] g w4.heap.size 4 4 p n c l (N + 2 + 2 + 2) _ (by omega) hm (by omega) (by omega) rfl HR.out (Nat.ne_of_gt H4.out) HC.out).mono ?_
    rintro e w5 ⟨a, rfl, ha, C, G⟩
    have HC := Lib.hid C
    have HG := Lib.hid (HG.out.trans G)
    have K2 := Lib.hid (Box.by_ K2.out G (Nat.ne_of_lt HL.out))
    have K3 := Lib.hid (Box.by_ K3.out G (Nat.ne_of_lt (Nat.lt_trans HL.out H23.out)))
    have HA : Hid ((Lit.int .i64 a).wf = true) := Lib.hid (by simp at ha; rcases ha with rfl | rfl | rfl | rfl <;> decide)
    clear C G ha
    have f3 := K3.out.frozen
    have z3 := K3.out.lt
    obtain ⟨v3, hv3⟩ : ∃ v, w5.cell? ⟨w2.heap.size, k, none⟩ = some v := by
      obtain ⟨c0, c1, c2, c3⟩ := K3.out.cell
      rcases (show k = 0 ∨ k = 1 ∨ k = 2 ∨ k = 3 by omega) with rfl | rfl | rfl | rfl
      · exact ⟨_, c0⟩
      · exact ⟨_, c1⟩
      · exact ⟨_, c2⟩
      · exact ⟨_, c3⟩
    have k2 : (0 : Int) ≤ k := by omega
    have k3 : (k : Int) < 4 := by omega
    go_upto_region 4 with fail
    have hG := grown_set w5 w2.heap.size k (.int .i64 a)
    have K3 := Lib.hid (Box.put K3.out a hk)
    have HC := Lib.hid (HC.out.by_ hG (Nat.lt_trans HL.out H23.out) (fun h0 q e => Nat.lt_trans (HF.out h0 q e) H23.out))
    have HG := Lib.hid (grown_fresh HG.out hG (Nat.le_of_lt H23.out))
    have K2 := Lib.hid (Box.by_ K2.out hG (Nat.ne_of_gt H23.out))
    have HW := Lib.hid (wf_put (wf4_ok HX.out) HA.out k)
    clear hG f3 z3 hv3
    generalize w5.setCell ⟨w2.heap.size, k, none⟩ (.int .i64 a) = w6 at *
    generalize putAt x a k = y at *
    obtain ⟨c0, c1, c2, c3⟩ := K3.out.cell
    obtain ⟨d0, d1, d2, d3⟩ := K2.out.cell
    have f2 := K2.out.frozen
    have z2 := K2.out.lt
    go_wp2_with fail
    have hG := grown_set4 w6 w.heap.size y
    try simp only [Exit.inBlock, Exit.then]
    show bodyPost _ _ _ _ _ _
    refine bodyPost_ret (res_cardC Try.results23 rfl (Box.set_ K2.out y)) rfl ?_
    exact ⟨y, rfl, HW.out, (HC.out.by_ hG HL.out HF.out).more (by omega), grown_fresh HG.out hG (Nat.le_refl _)⟩
end Go.Proofs.Ytkmkochganknmaa.draw
