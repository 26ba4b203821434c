/- Merged texts: Kb, Kc, Kd, Ke, B3, Vx, B5, B4. -/
import Derived.Test.YtfbcjcfhdclklaaKa
import Derived.Test.YtfbcjcfhdclklaaC3
import Derived.Deep.DeepCutAuto
import Derived.Deep.RegionLaw
import Derived.Test.YtfbcjcfhdclklaaZt
import Derived.BigQuiet
import Derived.Test.YtfbcjcfhdclklaaRc
import Derived.Laws.ResultCell
import Derived.Laws.Rows
import Derived.IntWalk
import Derived.Laws.AppendOwn
import Derived.Maps.AppendAt
import Derived.Test.YtfbcjcfhdclklaaA4
import Derived.Test.YtfbcjcfhdclklaaB2
import Derived.Test.YtfbcjcfhdclklaaC6
import Derived.Test.YtfbcjcfhdclklaaC7
import Derived.Deep.WholeRow
import Derived.Test.YtfbcjcfhdclklaaA1
/- Draws: a number below a bound, once in so many times, one of some numbers. -/
namespace Go.Proofs.Ytfbcjcfhdclklaa.draw
open Go.RowKit
open cards
set_option linter.unusedVariables false

abbrev nums (l : List Int) : List Value := l.map (fun b => .int .i64 b)
theorem Cur.more {w : World} {g : Nat} {p : Option Addr} {n c : Nat} {l : List Int} {N M : Nat} (h : Cur w g p n c l N) (hM : N ≤ M) : Cur w g p n c l M := by
  obtain ⟨a, s, h1, h2, h3, h4⟩ := h
  exact ⟨a, s, h1, h2, by omega, h4⟩

set_option maxRecDepth 100000 in
set_option maxHeartbeats 4000000 in
theorem pick_ (k : Int) (g : Nat) (p : Option Addr) (n c : Nat) (l : List Int) (N : Nat) (w : World) (hN : N ≤ 900000) (hm : n ≤ 1000000000) (hk : 1 ≤ k) (hk2 : k ≤ 1000000000) (h : Cur w g p n c l N) :
    Calls Try.prog 45 #[.pointer (some ⟨g, 0, none⟩), .int .i64 k] w fun e w' => ∃ b : Int, e = .returned (.int .i64 b) ∧ 0 ≤ b ∧ b < k ∧ Cur w' g p n c l (N + 2) ∧ w.grownBy w' (some g) := by
  have HC := Lib.hid h
  clear h
  by_cases hq : k ≤ 1
  · go_enter Try.func45, Try.ntmps45
    go_wp2_with fail
    go_ret
    exact ⟨0, rfl, by omega, by omega, HC.out.more (by omega), World.grownBy.refl _ _⟩
  · go_enter Try.func45, Try.ntmps45
    go_wp2_with fail
    refine (next_ g p n c l N _ (by omega) hm HC.out).mono ?_
    rintro e w1 ⟨b, rfl, b0, b1, C, G⟩
    have HC := Lib.hid C
    have HG := Lib.hid G
    clear C G
    by_cases h2 : k ≤ 200
    · go_wp2_with fail
      go_ret
      exact ⟨b % k, rfl, Int.emod_nonneg _ (by omega), Int.emod_lt_of_pos _ (by omega), HC.out.more (by omega), HG.out⟩
    · go_wp2_with fail
      refine (next_ g p n c l (N + 1) _ (by omega) hm HC.out).mono ?_
      rintro e w2 ⟨b2, rfl, b3, b4, C, G⟩
      have HC := Lib.hid C
      have HG := Lib.hid (HG.out.trans G)
      clear C G
      go_wp2_with fail
      go_ret
      exact ⟨(b * 256 + b2) % k, rfl, Int.emod_nonneg _ (by omega), Int.emod_lt_of_pos _ (by omega), HC.out, HG.out⟩

set_option maxRecDepth 100000 in
set_option maxHeartbeats 4000000 in
theorem one_ (k : Int) (g : Nat) (p : Option Addr) (n c : Nat) (l : List Int) (N : Nat) (w : World) (hN : N ≤ 900000) (hm : n ≤ 1000000000) (hk : 1 ≤ k) (hk2 : k ≤ 1000000000) (h : Cur w g p n c l N) :
    Calls Try.prog 76 #[.pointer (some ⟨g, 0, none⟩), .int .i64 k] w fun e w' => ∃ b : Bool, e = .returned (.bool b) ∧ Cur w' g p n c l (N + 2) ∧ w.grownBy w' (some g) := by
  have HC := Lib.hid h
  clear h
  go_enter Try.func76, Try.ntmps76
  go_wp2_with fail
  refine (pick_ k g p n c l N _ hN hm hk hk2 HC.out).mono ?_
  rintro e w1 ⟨b, rfl, b0, b1, C, G⟩
  have HC := Lib.hid C
  have HG := Lib.hid G
  clear C G
  go_wp2_with fail
  go_ret
  exact ⟨_, rfl, HC.out, HG.out⟩

set_option maxRecDepth 100000 in
set_option maxHeartbeats 4000000 in
theorem among_ (xs : List Int) (g b2 m c2 : Nat) (p : Option Addr) (n c : Nat) (l : List Int) (N : Nat) (w : World) (hN : N ≤ 900000) (hm : n ≤ 1000000000) (hk : 1 ≤ m) (hk2 : m ≤ 1000000000) (hx : xs.length = m) (hr : Rd w (some ⟨b2, 0, none⟩) (nums xs)) (hne : b2 ≠ g) (h : Cur w g p n c l N) :
    Calls Try.prog 71 #[.pointer (some ⟨g, 0, none⟩), .slice (some ⟨b2, 0, none⟩) m c2] w fun e w' => ∃ x : Int, e = .returned (.int .i64 x) ∧ x ∈ xs ∧ Cur w' g p n c l (N + 2) ∧ w.grownBy w' (some g) := by
  have HC := Lib.hid h
  have HX := Lib.hid hx
  have HR := Lib.hid hr
  clear h hx hr
  go_enter Try.func71, Try.ntmps71
  go_wp2_with fail
  refine (pick_ m g p n c l N _ hN hm (by omega) (by omega) HC.out).mono ?_
  rintro e w1 ⟨b, rfl, b0, b1, C, G⟩
  have HC := Lib.hid C
  have HR := Lib.hid (Rd.grown HR.out G (fun _ q e => by cases e; exact hne))
  have HG := Lib.hid G
  clear C G
  obtain ⟨k, rfl⟩ : ∃ k : Nat, b = k := ⟨b.toNat, by omega⟩
  have hk : k < xs.length := by have := HX.out; omega
  have hx : xs[k]? = some xs[k] := List.getElem?_eq_getElem hk
  obtain ⟨x, hxx⟩ : ∃ x, xs[k] = x := ⟨_, rfl⟩
  rw [hxx] at hx
  have HM := Lib.hid (List.mem_of_getElem? hx)
  obtain ⟨_, _, e, _, hc⟩ := HR.out (by simp [nums]; omega)
  cases e
  have c0 : w1.cell? ⟨b2, 0 + k, none⟩ = some (.int .i64 x) := hc k _ (by simp [nums, hx])
  have m2 : (0 : Int) ≤ k := by omega
  rw [Nat.zero_add] at c0
  clear hc hx hxx hk
  go_wp2_with fail
  go_ret
  exact ⟨_, rfl, HM.out, HC.out, HG.out⟩
end Go.Proofs.Ytfbcjcfhdclklaa.draw

/- Draws: a card, and one that is often near another one. -/
namespace Go.Proofs.Ytfbcjcfhdclklaa.draw
open Go.RowKit
open cards
set_option linter.unusedVariables false

def wf4 (x : Cd) : Prop := (Lit.int .i64 x.a).wf = true ∧ (Lit.int .i64 x.b).wf = true ∧ (Lit.int .i64 x.c).wf = true ∧ (Lit.int .i64 x.d).wf = true
theorem wf4_ok {x : Cd} (h : x.ok = true) : wf4 x := by
  obtain ⟨⟨x1, x2⟩, ⟨x3, x4⟩, ⟨x5, x6⟩, x7, x8⟩ := Cd.bd h
  exact ⟨wf_small x1 (by omega), wf_small x3 (by omega), wf_small x5 (by omega), wf_small x7 (by omega)⟩
theorem Cur.lt {w : World} {g : Nat} {p : Option Addr} {n c : Nat} {l : List Int} {N : Nat} (h : Cur w g p n c l N) : g < w.heap.size := by
  obtain ⟨a, s, hb, _⟩ := h
  exact hb.lt
theorem Cur.below {w w1 : World} {g : Nat} {p : Option Addr} {n c : Nat} {l : List Int} {N : Nat} (h : Cur w g p n c l N) (b : Below w.heap.size w w1) : Cur w1 g p n c l N := by
  obtain ⟨a, s, hb, h0, h1, hr, h2⟩ := h
  exact ⟨a, s, hb.below b, h0, h1, Rd.below hr b, h2⟩
theorem Cur.alloc {w : World} {g : Nat} {p : Option Addr} {n c : Nat} {l : List Int} {N : Nat} (h : Cur w g p n c l N) (o : Obj) : Cur (w.alloc o) g p n c l N := h.below ((Below.refl _ _).alloc (Nat.le_refl _) o)
theorem Cur.drew {w : World} {g : Nat} {p : Option Addr} {n c : Nat} {l : List Int} {N : Nat} (h : Cur w g p n c l N) : Cur w.drew g p n c l N := h
/-- Where the code lies. -/
def Far (p : Option Addr) (n B : Nat) : Prop := 0 < n → ∀ q, p = some q → q.block < B
theorem Cur.far {w : World} {g : Nat} {p : Option Addr} {n c : Nat} {l : List Int} {N : Nat} (h : Cur w g p n c l N) : Far p n w.heap.size := fun h0 q e => by
  obtain ⟨a, s, hb, _, _, hr, hl, _, hd⟩ := h
  obtain ⟨b, o, e2, hb, _⟩ := hr (by simp; omega)
  rw [e2] at e
  cases e
  exact hb
theorem Cur.by_ {w w1 : World} {g g2 : Nat} {p : Option Addr} {n c : Nat} {l : List Int} {N : Nat} (h : Cur w g p n c l N) (hG : w.grownBy w1 (some g2)) (hne : g < g2) (hf : Far p n g2) : Cur w1 g p n c l N := by
  obtain ⟨a, s, hb, h0, h1, hr, hl, h2⟩ := h
  exact ⟨a, s, (hG.block g hb.lt (fun e => by injection e with e; omega)).trans hb, h0, h1, Rd.grown hr hG (fun hp q e e2 => by have := hf (by simp at hp; omega) q e; omega), hl, h2⟩
theorem cdAt_okC {n : Int} (h0 : 0 ≤ n) (h1 : n ≤ 80) : (cdAt n).ok = true := Cd.mk_ok (by unfold cdAt; simp only; omega)
theorem Box.by_ {w w1 : World} {g m : Nat} {x : Cd} (h : Box w g x) (hg : w.grownBy w1 (some m)) (hne : m ≠ g) : Box w1 g x :=
  (hg.block g (Box.lt h) (fun e => hne (by cases e; rfl))).trans h

theorem grown_fresh {a w w1 : World} {g m : Nat} (h : a.grownBy w (some g)) (k : w.grownBy w1 (some m)) (hm : a.heap.size ≤ m) : a.grownBy w1 (some g) :=
  ⟨k.os.trans h.os, k.tape.trans h.tape, k.output.trans h.output, Nat.le_trans h.size k.size, fun i hi hr => (k.block i (Nat.lt_of_lt_of_le hi h.size) (fun e => by injection e with e; omega)).trans (h.block i hi hr)⟩
theorem grown_set4 (w : World) (g : Nat) (x : Cd) : w.grownBy ((((w.setCell ⟨g, 0, none⟩ (.int .i64 x.a)).setCell ⟨g, 1, none⟩ (.int .i64 x.b)).setCell ⟨g, 2, none⟩ (.int .i64 x.c)).setCell ⟨g, 3, none⟩ (.int .i64 x.d)) (some g) :=
  (((grown_set w g 0 _).trans (grown_set _ g 1 _)).trans (grown_set _ g 2 _)).trans (grown_set _ g 3 _)
theorem load_cardC {w : World} {g : Nat} {x : Cd} (h : Box w g x) : (loadVar 48 ⟨g, 0, none⟩).run Try.prog w = .ok x.val w :=
  run_loadVar_row w g 48 48 _ (0, 0) _ h Try.underlying48 rfl (by kernel_rfl)
theorem res_cardC {fn : Func} {i : Tmp} (hf : fn.results = #[.cell i 48]) {tmps : Array Value} {w : World} {g : Nat} {m : Cd} (ht : tmps.getD i undef = .pointer (some ⟨g, 0, none⟩)) (h : Box w g m) :
    (results fn tmps).run Try.prog w = .ok m.val w := by
  have hl := load_cardC h
  rw [Array.getD_eq_getD_getElem?] at ht
  simp only [results, hf]
  simp [Sem.run_bind, ht, asAddr, hl]
theorem Box.put0 {w : World} {g : Nat} {x : Cd} (h : Box w g x) (a : Int) : Box (w.setCell ⟨g, 0, none⟩ (.int .i64 a)) g ⟨a, x.b, x.c, x.d⟩ := by
  unfold Box at h ⊢; rw [heap_setCell_same _ g _ _ _ _ h]; rfl
theorem Box.put1 {w : World} {g : Nat} {x : Cd} (h : Box w g x) (a : Int) : Box (w.setCell ⟨g, 1, none⟩ (.int .i64 a)) g ⟨x.a, a, x.c, x.d⟩ := by
  unfold Box at h ⊢; rw [heap_setCell_same _ g _ _ _ _ h]; rfl
theorem Box.put2 {w : World} {g : Nat} {x : Cd} (h : Box w g x) (a : Int) : Box (w.setCell ⟨g, 2, none⟩ (.int .i64 a)) g ⟨x.a, x.b, a, x.d⟩ := by
  unfold Box at h ⊢; rw [heap_setCell_same _ g _ _ _ _ h]; rfl
theorem Box.put3 {w : World} {g : Nat} {x : Cd} (h : Box w g x) (a : Int) : Box (w.setCell ⟨g, 3, none⟩ (.int .i64 a)) g ⟨x.a, x.b, x.c, a⟩ := by
  unfold Box at h ⊢; rw [heap_setCell_same _ g _ _ _ _ h]; rfl
/-- A number put at one of a card's four places. -/
def putAt (x : Cd) (a : Int) : Nat → Cd
  | 0 => ⟨a, x.b, x.c, x.d⟩
  | 1 => ⟨x.a, a, x.c, x.d⟩
  | 2 => ⟨x.a, x.b, a, x.d⟩
  | _ => ⟨x.a, x.b, x.c, a⟩
theorem Box.put {w : World} {g : Nat} {x : Cd} (h : Box w g x) (a : Int) {k : Nat} (hk : k < 4) : Box (w.setCell ⟨g, k, none⟩ (.int .i64 a)) g (putAt x a k) := by
  rcases (show k = 0 ∨ k = 1 ∨ k = 2 ∨ k = 3 by omega) with rfl | rfl | rfl | rfl
  · exact Box.put0 h a
  · exact Box.put1 h a
  · exact Box.put2 h a
  · exact Box.put3 h a
theorem wf_put {x : Cd} (h : wf4 x) {a : Int} (ha : (Lit.int .i64 a).wf = true) (k : Nat) : wf4 (putAt x a k) := by
  obtain ⟨h1, h2, h3, h4⟩ := h
  unfold putAt
  split
  · exact ⟨ha, h2, h3, h4⟩
  · exact ⟨h1, ha, h3, h4⟩
  · exact ⟨h1, h2, ha, h4⟩
  · exact ⟨h1, h2, h3, ha⟩

set_option maxRecDepth 100000 in
set_option maxHeartbeats 4000000 in
theorem card_ (g : Nat) (p : Option Addr) (n c : Nat) (l : List Int) (N : Nat) (w : World) (hN : N ≤ 800000) (hm : n ≤ 1000000000) (h : Cur w g p n c l N) :
    Calls Try.prog 77 #[.pointer (some ⟨g, 0, none⟩)] w fun e w' => ∃ x : Cd, e = .returned x.val ∧ wf4 x ∧ Cur w' g p n c l (N + 8) ∧ w.grownBy w' (some g) := by
  have HF := Lib.hid h.far
  have HL := Lib.hid h.lt
  have HC := Lib.hid (h.alloc zero.obj)
  have HG := Lib.hid (World.grownBy_alloc w zero.obj (some g))
  have K2 := Lib.hid (Box.new w zero)
  clear h
  go_enter Try.func77, Try.ntmps77
  go_wp2_with fail
  refine (pick_ 81 g p n c l N _ (by omega) hm (by omega) (by omega) HC.out).mono ?_
  rintro e w1 ⟨b, rfl, b0, b1, C, G⟩
  have HC := Lib.hid C
  have HG := Lib.hid (HG.out.trans G)
  have K2 := Lib.hid (Box.by_ K2.out G (Nat.ne_of_lt HL.out))
  clear C G
  go_wp2_with fail
  refine (l2_at b _ b0 (by omega)).mono ?_
  rintro e w2 ⟨rfl, bl⟩
  have HC := Lib.hid (HC.out.below bl)
  have HG := Lib.hid (Lib.grownBy_below HG.out bl)
  have K2 := Lib.hid (Box.below K2.out bl)
  have HX := Lib.hid (cdAt_okC b0 (by omega))
  clear bl
  obtain ⟨x, hx⟩ : ∃ x, cdAt b = x := ⟨_, rfl⟩
  rw [hx] at HX
  simp only [hx]
  clear hx b0 b1
  go_wp2_with fail
  have K3 := Lib.hid (Box.new w2 x)
  have H23 : Hid (w.heap.size < w2.heap.size) := Lib.hid K2.out.lt
  have HC := Lib.hid (HC.out.alloc x.obj)
  have HG := Lib.hid (HG.out.trans (World.grownBy_alloc w2 x.obj (some g)))
  have K2 := Lib.hid (K2.out.alloc x.obj)
  refine (one_ 40 g p n c l (N + 2) _ (by omega) hm (by omega) (by omega) HC.out).mono ?_
  rintro e w3 ⟨o, rfl, C, G⟩
  have HC := Lib.hid C
  have HG := Lib.hid (HG.out.trans G)
  have K2 := Lib.hid (Box.by_ K2.out G (Nat.ne_of_lt HL.out))
  have K3 := Lib.hid (Box.by_ K3.out G (Nat.ne_of_lt (Nat.lt_trans HL.out H23.out)))
  clear C G
  cases o
  · obtain ⟨c0, c1, c2, c3⟩ := K3.out.cell
    obtain ⟨d0, d1, d2, d3⟩ := K2.out.cell
    have f2 := K2.out.frozen
    have z2 := K2.out.lt
    go_wp2_with fail
    have hG := grown_set4 w3 w.heap.size x
    try simp only [Exit.inBlock, Exit.then]
    show bodyPost _ _ _ _ _ _
    refine bodyPost_ret (res_cardC Try.results77 rfl (Box.set_ K2.out x)) rfl ?_
    exact ⟨x, rfl, wf4_ok HX.out, (HC.out.by_ hG HL.out HF.out).more (by omega), grown_fresh HG.out hG (Nat.le_refl _)⟩
  · go_wp2_with fail
    refine (pick_ 4 g p n c l (N + 2 + 2) _ (by omega) hm (by omega) (by omega) HC.out).mono ?_
    rintro e w4 ⟨k, rfl, k0, k1, C, G⟩
    have HC := Lib.hid C
    have HG := Lib.hid (HG.out.trans G)
    have K2 := Lib.hid (Box.by_ K2.out G (Nat.ne_of_lt HL.out))
    have K3 := Lib.hid (Box.by_ K3.out G (Nat.ne_of_lt (Nat.lt_trans HL.out H23.out)))
    clear C G
    obtain ⟨k, rfl⟩ : ∃ j : Nat, k = j := ⟨k.toNat, by omega⟩
    have hk : k < 4 := by omega
    go_wp2_with fail
    have HR := Lib.hid (Rd.newAt (w := w4) (t := 3) (g := w4.heap.size) rfl (show (#[.int .i64 (-1), .int .i64 3, .int .i64 4611686018427387904, .int .i64 (-9223372036854775808)] : Array Value).toList = nums [-1, 3, 4611686018427387904, -9223372036854775808] from rfl))
    have HC := Lib.hid (HC.out.alloc (.cells #[.int .i64 (-1), .int .i64 3, .int .i64 4611686018427387904, .int .i64 (-9223372036854775808)] 3))
    have HG := Lib.hid (HG.out.trans (World.grownBy_alloc w4 (.cells #[.int .i64 (-1), .int .i64 3, .int .i64 4611686018427387904, .int .i64 (-9223372036854775808)] 3) (some g)))
    have K2 := Lib.hid (K2.out.alloc (.cells #[.int .i64 (-1), .int .i64 3, .int .i64 4611686018427387904, .int .i64 (-9223372036854775808)] 3))
    have K3 := Lib.hid (K3.out.alloc (.cells #[.int .i64 (-1), .int .i64 3, .int .i64 4611686018427387904, .int .i64 (-9223372036854775808)] 3))
    have H4 : Hid (g < w4.heap.size) := Lib.hid (by have h1 := HC.out.lt; have h2 := HL.out; have h3 := HG.out.size; have h5 := K2.out.lt; have h6 := H23.out; have := K3.out.lt; simp at *; omega)
    refine (among_ [-1, 3, 4611686018427387904, -9223372036854775808] g w4.heap.size 4 4 p n c l (N + 2 + 2 + 2) _ (by omega) hm (by omega) (by omega) rfl HR.out (Nat.ne_of_gt H4.out) HC.out).mono ?_
    rintro e w5 ⟨a, rfl, ha, C, G⟩
    have HC := Lib.hid C
    have HG := Lib.hid (HG.out.trans G)
    have K2 := Lib.hid (Box.by_ K2.out G (Nat.ne_of_lt HL.out))
    have K3 := Lib.hid (Box.by_ K3.out G (Nat.ne_of_lt (Nat.lt_trans HL.out H23.out)))
    have HA : Hid ((Lit.int .i64 a).wf = true) := Lib.hid (by simp at ha; rcases ha with rfl | rfl | rfl | rfl <;> decide)
    clear C G ha
    have f3 := K3.out.frozen
    have z3 := K3.out.lt
    obtain ⟨v3, hv3⟩ : ∃ v, w5.cell? ⟨w2.heap.size, k, none⟩ = some v := by
      obtain ⟨c0, c1, c2, c3⟩ := K3.out.cell
      rcases (show k = 0 ∨ k = 1 ∨ k = 2 ∨ k = 3 by omega) with rfl | rfl | rfl | rfl
      · exact ⟨_, c0⟩
      · exact ⟨_, c1⟩
      · exact ⟨_, c2⟩
      · exact ⟨_, c3⟩
    have k2 : (0 : Int) ≤ k := by omega
    have k3 : (k : Int) < 4 := by omega
    go_upto_region 4 with fail
    have hG := grown_set w5 w2.heap.size k (.int .i64 a)
    have K3 := Lib.hid (Box.put K3.out a hk)
    have HC := Lib.hid (HC.out.by_ hG (Nat.lt_trans HL.out H23.out) (fun h0 q e => Nat.lt_trans (HF.out h0 q e) H23.out))
    have HG := Lib.hid (grown_fresh HG.out hG (Nat.le_of_lt H23.out))
    have K2 := Lib.hid (Box.by_ K2.out hG (Nat.ne_of_gt H23.out))
    have HW := Lib.hid (wf_put (wf4_ok HX.out) HA.out k)
    clear hG f3 z3 hv3
    generalize w5.setCell ⟨w2.heap.size, k, none⟩ (.int .i64 a) = w6 at *
    generalize putAt x a k = y at *
    obtain ⟨c0, c1, c2, c3⟩ := K3.out.cell
    obtain ⟨d0, d1, d2, d3⟩ := K2.out.cell
    have f2 := K2.out.frozen
    have z2 := K2.out.lt
    go_wp2_with fail
    have hG := grown_set4 w6 w.heap.size y
    try simp only [Exit.inBlock, Exit.then]
    show bodyPost _ _ _ _ _ _
    refine bodyPost_ret (res_cardC Try.results77 rfl (Box.set_ K2.out y)) rfl ?_
    exact ⟨y, rfl, HW.out, (HC.out.by_ hG HL.out HF.out).more (by omega), grown_fresh HG.out hG (Nat.le_refl _)⟩
end Go.Proofs.Ytfbcjcfhdclklaa.draw

/- Draws: a card that is often near another one. -/
namespace Go.Proofs.Ytfbcjcfhdclklaa.draw
open Go.RowKit
open cards
set_option linter.unusedVariables false

end Go.Proofs.Ytfbcjcfhdclklaa.draw

/- Draws: two cards, three cards, a number. -/
namespace Go.Proofs.Ytfbcjcfhdclklaa.draw
open Go.RowKit
open cards
set_option linter.unusedVariables false

theorem Cur.new {w : World} {g : Nat} {p : Option Addr} {n c : Nat} {l : List Int} (hg : w.heap.size = g) (hr : Rd w p (bys l)) (hl : l.length = n) (hy : isByte l) : Cur (w.alloc (Cv.obj ⟨.slice p n c, 0, 0⟩)) g p n c l 0 := by
  refine ⟨0, 0, CBox.newAt hg rfl, by omega, by omega, Rd.alloc hr _, hl, hy, fun h0 q e => ?_⟩
  obtain ⟨b, o, e2, hb, _⟩ := hr (by simp; omega)
  rw [e2] at e
  cases e
  simp only
  omega

theorem Cur.by2 {w w1 : World} {g g2 : Nat} {p : Option Addr} {n c : Nat} {l : List Int} {N : Nat} (h : Cur w g p n c l N) (hG : w.grownBy w1 (some g2)) (hne : g2 ≠ g) (hf : 0 < n → ∀ q, p = some q → q.block ≠ g2) : Cur w1 g p n c l N := by
  obtain ⟨a, s, hb, h0, h1, hr, hl, h2⟩ := h
  exact ⟨a, s, (hG.block g hb.lt (fun e => hne (by cases e; rfl))).trans hb, h0, h1, Rd.grown hr hG (fun hp => hf (by simp at hp; omega)), hl, h2⟩
theorem Cur.set4 {w : World} {g g2 : Nat} {p : Option Addr} {n c : Nat} {l : List Int} {N : Nat} (h : Cur w g p n c l N) (hne : g2 < g) (hf : Far p n g2) (x : Cd) : Cur ((((w.setCell ⟨g2, 0, none⟩ (.int .i64 x.a)).setCell ⟨g2, 1, none⟩ (.int .i64 x.b)).setCell ⟨g2, 2, none⟩ (.int .i64 x.c)).setCell ⟨g2, 3, none⟩ (.int .i64 x.d)) g p n c l N :=
  h.by2 (grown_set4 w g2 x) (by omega) (fun h0 q e => Nat.ne_of_lt (hf h0 q e))
theorem res_22 {fn : Func} {i j : Tmp} (hf : fn.results = #[.cell i 48, .cell j 48]) {tmps : Array Value} {w : World} {g k : Nat} {x y : Cd} (ht : tmps.getD i undef = .pointer (some ⟨g, 0, none⟩)) (hu : tmps.getD j undef = .pointer (some ⟨k, 0, none⟩)) (h : Box w g x) (h2 : Box w k y) :
    (results fn tmps).run Try.prog w = .ok (.tuple #[x.val, y.val]) w := by
  have hl := load_cardC h
  have hl2 := load_cardC h2
  rw [Array.getD_eq_getD_getElem?] at ht hu
  simp only [results, hf]
  simp [Sem.run_bind, ht, hu, asAddr, hl, hl2]

end Go.Proofs.Ytfbcjcfhdclklaa.draw

/- The law on DeckParting: what it draws, and its own helpers. -/
namespace Go.Proofs.Ytfbcjcfhdclklaa.draw
open Go.RowKit
open cards
set_option linter.unusedVariables false

set_option maxRecDepth 100000 in
set_option maxHeartbeats 4000000 in
theorem draw_dp (p : Option Addr) (n c : Nat) (l : List Int) (w : World) (hm : n ≤ 1000000000) (hr : Rd w p (bys l)) (hl : l.length = n) (hy : isByte l) :
    Calls Try.prog 39 #[.slice p n c] w fun e w' => ∃ x : Cd, e = .returned x.val ∧ wf4 x ∧ Below w.heap.size w w' := by
  have HC : Hid (Cur ((w.alloc zero.obj).alloc (Cv.obj ⟨.slice p n c, 0, 0⟩)) (w.heap.size + 1) p n c l 0) := Lib.hid (Cur.new (by simp) (hr.alloc _) hl hy)
  have HB : Hid (Below w.heap.size w ((w.alloc zero.obj).alloc (Cv.obj ⟨.slice p n c, 0, 0⟩))) := Lib.hid (((Below.refl _ _).alloc (Nat.le_refl _) _).alloc (by simp) _)
  have K2 : Hid (Box ((w.alloc zero.obj).alloc (Cv.obj ⟨.slice p n c, 0, 0⟩)) w.heap.size zero) := Lib.hid ((Box.new w zero).alloc _)
  clear hr hl hy
  go_enter Try.func39, Try.ntmps39
  go_wp2_with fail
  generalize ((w.alloc zero.obj).alloc (Cv.obj ⟨.slice p n c, 0, 0⟩)) = W at *
  refine (one_ 8 (w.heap.size + 1) p n c l 0 _ (by omega) hm (by omega) (by omega) HC.out).mono ?_
  rintro e w1 ⟨b, rfl, C, G⟩
  have HB := Lib.hid (Below.grown HB.out G HB.out.size (fun k hk => by injection hk with hk; omega))
  have K2 := Lib.hid (Box.by_ K2.out G (by omega))
  have HC := Lib.hid C
  clear C G
  cases b
  · go_wp2_with fail
    refine (card_ (w.heap.size + 1) p n c l 2 _ (by omega) hm HC.out).mono ?_
    rintro e w2 ⟨x, rfl, hx, C, G⟩
    have HX := Lib.hid hx
    have HB := Lib.hid (Below.grown HB.out G HB.out.size (fun k hk => by injection hk with hk; omega))
    have K2 := Lib.hid (Box.by_ K2.out G (by omega))
    clear C G hx
    obtain ⟨d0, d1, d2, d3⟩ := K2.out.cell
    have f2 := K2.out.frozen
    have z2 := K2.out.lt
    go_wp2_with fail
    try simp only [Exit.inBlock, Exit.then]
    refine bodyPost_ret (res_cardC Try.results39 rfl (Box.set_ K2.out x)) rfl ?_
    exact ⟨x, rfl, HX.out, Below.grown HB.out (grown_set4 _ w.heap.size x) HB.out.size (fun k hk => by injection hk with hk; omega)⟩
  · obtain ⟨d0, d1, d2, d3⟩ := K2.out.cell
    have f2 := K2.out.frozen
    have z2 := K2.out.lt
    go_wp2_with fail
    try simp only [Exit.inBlock, Exit.then]
    refine bodyPost_ret (res_cardC Try.results39 rfl (Box.set_ K2.out zero)) rfl ?_
    exact ⟨zero, rfl, wf4_ok (by decide), Below.grown HB.out (grown_set4 _ w.heap.size zero) HB.out.size (fun k hk => by injection hk with hk; omega)⟩

set_option maxRecDepth 100000 in
theorem v_big (p : Option Addr) (n c : Nat) (w : World) (b : Bool) (hb : decide ((65536 : Int) < n) = b) :
    Calls Try.prog 6 #[.slice p n c] w fun e w' => e = .returned (.bool b) ∧ w = w' := by
  have HBo := Lib.hid hb
  clear hb
  go_enter Try.func6, Try.ntmps6
  go_wp2_with fail
  go_ret
  exact ⟨ret_bool HBo.out, rfl⟩
end Go.Proofs.Ytfbcjcfhdclklaa.draw
namespace Go.Proofs.Ytfbcjcfhdclklaa.parting
open Go.RowKit
open cards
set_option linter.unusedVariables false

theorem same3_self (x : A3) : same3 x x = true := by simp [same3]
set_option maxRecDepth 100000 in
set_option maxHeartbeats 4000000 in
theorem v_lines (l : List A3) (p1 p2 : Option Addr) (n c1 c2 : Nat) (w : World) (hn : l.length = n) (hl : n ≤ 1000000000) (hr1 : Rd w p1 (A3.flat l)) (hr2 : Rd w p2 (A3.flat l)) (hw : ∀ x ∈ l, wf3 x) :
    Calls Try.prog 16 #[.slice p1 n c1, .slice p2 n c2] w fun e w' => e = .returned (.bool true) ∧ Below w.heap.size w w' := by
  have HN := Lib.hid hn
  have H1 := Lib.hid hr1
  have H2 := Lib.hid hr2
  have HW := Lib.hid hw
  clear hn hr1 hr2 hw
  go_enter Try.func16, Try.ntmps16
  go_wp2_with fail
  go_loopw [5] (fun i wr => ∃ k : Nat, k ≤ n ∧ i = .int .i64 k ∧ Hid (Below w.heap.size w wr)) (fun i _ => n - (intOf i).toNat)
  case atStart => exact ⟨0, Nat.zero_le _, rfl, Below.refl _ _⟩
  case round =>
    obtain ⟨k, hk, rfl, HB⟩ := hrel
    by_cases hlt : k < n
    · obtain ⟨b, o, x, rfl, hb, hx, c0, c1, c2⟩ := (H1.out.below HB.out).aA3 (k := k) (by rw [HN.out]; exact hlt)
      obtain ⟨b2, o2, y, rfl, hb2, hy, d0, d1, d2⟩ := (H2.out.below HB.out).aA3 (k := k) (by rw [HN.out]; exact hlt)
      obtain rfl : x = y := by rw [hx] at hy; injection hy
      have he := eq3 x x (HW.out x (List.mem_of_getElem? hx)) (HW.out x (List.mem_of_getElem? hx))
      rw [same3_self] at he
      have m0 : (0 : Int) ≤ (k : Int) := by omega
      have m1 : (k : Int) < (n : Int) := by omega
      clear hx hy
      go_wp2_with fail
      go_quiet (fail)
      go_wp2_with fail
      go_roundw
      case rel => exact ⟨k + 1, by omega, by go_num, Lib.hid (bdN HB.out _)⟩
      case measure => simp [intOf]; omega
    · obtain rfl : k = n := by omega
      go_wp2_with fail
      go_ret
      exact ⟨rfl, HB.out⟩
end Go.Proofs.Ytfbcjcfhdclklaa.parting

/- Blocks that hold an array of whatever type: what is known of them is the whole row of their cells. -/
namespace Go.Proofs.Ytfbcjcfhdclklaa.cards
open Go.RowKit
open reg
set_option linter.unusedVariables false

/-- Block g holds just these cells. -/
def VB (w : World) (g : Nat) (T : TypeId) (cs : Array Value) : Prop := w.heap[g]? = some (.cells cs T)
section
variable {w w1 : World} {g : Nat} {T : TypeId} {cs : Array Value}
theorem VB.lt (h : VB w g T cs) : g < w.heap.size := (Array.getElem?_eq_some_iff.1 h).1
theorem VB.newAt {o : Obj} (h : w.heap.size = g) (ho : o = .cells cs T) : VB (w.alloc o) g T cs := by subst h; subst ho; exact heap_alloc_new w _
theorem VB.alloc (h : VB w g T cs) (o : Obj) : VB (w.alloc o) g T cs := (Below.heap_alloc w o g h.lt).trans h
theorem VB.drew (h : VB w g T cs) : VB w.drew g T cs := h
theorem VB.drewN (h : VB w g T cs) (n : Nat) : VB (w.drewN n) g T cs := h
theorem VB.below (h : VB w g T cs) (b : Below w.heap.size w w1) : VB w1 g T cs := (b.block g h.lt).trans h
theorem VB.under {B : Nat} (h : VB w g T cs) (hg : g < B) (b : Below B w w1) : VB w1 g T cs := (b.block g hg).trans h
theorem VB.frozen (h : VB w g T cs) : ∀ i, w.frozen? ⟨g, i, none⟩ = false := fun i => frozen_of_row w g i _ _ h
theorem VB.far (h : VB w g T cs) {p : Addr} (hp : g ≠ p.block) (u : Value) : VB (w.setCell p u) g T cs := (Below.heap_setCell w p u g hp).trans h
theorem VB.marked {row : Option Nat} (h : VB w g T cs) (hg : w.grownBy w1 row) (h2 : row ≠ some g) : VB w1 g T cs := (hg.block g h.lt (Ne.symm h2)).trans h
theorem VB.at_ (h : VB w g T cs) {j : Nat} {v : Value} (hj : cs[j]? = some v) : w.cell? ⟨g, j, none⟩ = some v := by
  unfold VB at h; rw [cell_of_row w g j _ _ _ h]; exact hj
theorem VB.set_ (h : VB w g T cs) {cs' : Array Value} {j : Nat} {v : Value} (hc : cs.set! j v = cs') : VB (w.setCell ⟨g, j, none⟩ v) g T cs' := by
  unfold VB at h ⊢
  rw [heap_setCell_same _ g j _ _ _ h, ← hc]; rfl
theorem VB.there (h : VB w g T cs) : w.there g 0 cs.size := fun j hj => ⟨by rw [Nat.zero_add, h.at_ (Array.getElem?_eq_getElem hj)]; rfl, h.frozen _⟩
end
theorem setCells_row : ∀ (vs : List Value) (o : Nat) (w : World) (g : Nat) (cs : Array Value) (t : TypeId), w.heap[g]? = some (.cells cs t) → ∃ cs', (w.setCells g o vs).heap[g]? = some (.cells cs' t) ∧ cs'.size = cs.size ∧ ∀ i, cs'[i]? = if o ≤ i ∧ i < o + vs.length ∧ i < cs.size then vs[i - o]? else cs[i]?
  | [], o, w, g, cs, t, h => ⟨cs, h, rfl, fun i => by rw [if_neg (by simp; omega)]⟩
  | v :: r, o, w, g, cs, t, h => by
    obtain ⟨cs', h1, h2, h3⟩ := setCells_row r (o + 1) (w.setCell ⟨g, o, none⟩ v) g (cs.set! o v) t (heap_setCell_same _ g o _ _ _ h)
    refine ⟨cs', h1, by rw [h2]; simp, fun i => ?_⟩
    rw [h3 i]
    have hs : (cs.set! o v).size = cs.size := by simp
    rw [hs]
    by_cases e1 : o + 1 ≤ i ∧ i < o + 1 + r.length ∧ i < cs.size
    · rw [if_pos e1, if_pos (by simp; omega), show i - o = (i - (o + 1)) + 1 by omega]; rfl
    · rw [if_neg e1]
      by_cases e2 : o ≤ i ∧ i < o + (v :: r).length ∧ i < cs.size
      · obtain rfl : i = o := by simp at e2; omega
        rw [if_pos e2, Nat.sub_self]
        simp [e2.2.2]
      · rw [if_neg e2]
        rw [Array.set!_eq_setIfInBounds, Array.getElem?_setIfInBounds]
        by_cases e3 : o = i
        · subst e3
          have : ¬ o < cs.size := by simp at e2; omega
          simp [this]
        · simp [e3]
theorem VB.stored {w : World} {g : Nat} {T : TypeId} {cs cs2 : Array Value} (h : VB w g T cs) (hs : cs2.size = cs.size) : VB (w.setCells g 0 cs2.toList) g T cs2 := by
  obtain ⟨cs', h1, h2, h3⟩ := setCells_row cs2.toList 0 w g _ _ h
  unfold VB
  rw [h1]
  have : cs' = cs2 := Array.ext_getElem? (fun i => by
    rw [h3 i]
    by_cases hi : i < cs.size
    · rw [if_pos (by simp; omega)]; simp
    · rw [if_neg (by omega), Array.getElem?_eq_none (by omega), Array.getElem?_eq_none (by omega)])
  rw [this]
theorem VB.load {w : World} {g : Nat} {T : TypeId} {cs : Array Value} (h : VB w g T cs) {K : Nat} {e : TypeId} (hu : (Try.prog).underlying T = some (.array K e)) (hi : ((Try.prog).info? T).map (·.size) = some cs.size) : (loadVar T ⟨g, 0, none⟩).run Try.prog w = .ok (.agg cs) w :=
  run_loadVar_row w g T T cs (0, 0) _ h hu rfl hi
theorem take_vb {ops : Array Oper} {rest : List Oper} {o : Oper} {a : Act} {w : World} {Q : Exit → Act → World → Prop} (hgd : o.guard = none) (T : TypeId) (x : Operand) (ho : o.op = .load T x) {g : Nat} {cs : Array Value} (h : VB w g T cs) {K : Nat} {e : TypeId} (hu : (Try.prog).underlying T = some (.array K e)) (hi : ((Try.prog).info? T).map (·.size) = some cs.size)
    (hx : a.eval x = .pointer (some ⟨g, 0, none⟩)) (hk : wpList Try.prog ops Q rest (a.put o.dst (.agg cs)) w) : wpList Try.prog ops Q (o :: rest) a w :=
  wpList_load_row hgd T x ho g hx T cs (0, 0) _ h hu rfl hi hk
theorem grown_setV (w : World) (g i : Nat) (v : Value) : w.grownBy (w.setCell ⟨g, i, none⟩ v) (some g) :=
  ⟨rfl, rfl, rfl, by simp [World.setCell], fun k hk hne => Below.heap_setCell _ _ _ _ (fun e => hne (by rw [e]))⟩
theorem grown_setsV (g : Nat) : ∀ (vs : List Value) (o : Nat) (w : World), w.grownBy (w.setCells g o vs) (some g)
  | [], o, w => World.grownBy.refl w _
  | v :: r, o, w => World.grownBy.trans (grown_setV w g o v) (grown_setsV g r (o + 1) _)
theorem store_vb {ops : Array Oper} {rest : List Oper} {o : Oper} {a : Act} {w : World} {Q : Exit → Act → World → Prop} (hgd : o.guard = none) (T : TypeId) (x y : Operand) (ho : o.op = .store T x y) {g : Nat} {cs : Array Value} (h : VB w g T cs) (hi : ((Try.prog).info? T).map (·.size) = some cs.size) (hx : a.eval x = .pointer (some ⟨g, 0, none⟩))
    (cs2 : Array Value) (hs : cs2.size = cs.size) (h1 : cs2.all (·.oneCell') = true) (hy : a.eval y = .agg cs2) (hk : ∀ w', VB w' g T cs2 → w.grownBy w' (some g) → wpList Try.prog ops Q rest (a.put o.dst undef) w') : wpList Try.prog ops Q (o :: rest) a w :=
  wpList_store_mid hgd T x y ho g 0 cs2 hx hy (by rw [hs]; exact h.there) (by rw [hs]; exact hi) h1 (hk _ (VB.stored h hs) (grown_setsV g _ _ _))
theorem res_vb {fn : Func} {i : Tmp} {T : TypeId} (hf : fn.results = #[.cell i T]) {tmps : Array Value} {w : World} {g : Nat} {cs : Array Value} (ht : tmps.getD i undef = .pointer (some ⟨g, 0, none⟩)) (h : VB w g T cs) {K : Nat} {e : TypeId} (hu : (Try.prog).underlying T = some (.array K e)) (hi : ((Try.prog).info? T).map (·.size) = some cs.size) :
    (results fn tmps).run Try.prog w = .ok (.agg cs) w := by
  have hl := h.load hu hi
  rw [Array.getD_eq_getD_getElem?] at ht
  simp only [results, hf]
  simp [ht, asAddr, hl]
theorem res_vb2 {fn : Func} {i u : Tmp} {T : TypeId} (hf : fn.results = #[.cell i T, .tmp u]) {tmps : Array Value} {w : World} {g : Nat} {cs : Array Value} (ht : tmps.getD i undef = .pointer (some ⟨g, 0, none⟩)) (h : VB w g T cs) {K : Nat} {e : TypeId} (hu : (Try.prog).underlying T = some (.array K e)) (hi : ((Try.prog).info? T).map (·.size) = some cs.size) :
    (results fn tmps).run Try.prog w = .ok (.tuple #[.agg cs, tmps.getD u undef]) w := by
  have hl := h.load hu hi
  rw [results_cell_tmp hf, ht]
  simp [asAddr, hl, Result.andThen]
/-! Single operations, for regions that draw their order. -/
theorem exec_indexN {T : TypeId} {N : Nat} {a : Act} {o : Oper} {p q : Operand} (ho : o.op = .indexAddr T p q) {g : Nat} (hp : a.eval p = .pointer (some ⟨g, 0, none⟩)) (hq : a.eval q = .int .i64 N)
    (hrun : ∀ w : World, (Instr.indexAt T (.pointer (some ⟨g, 0, none⟩)) (.int .i64 N)).run Try.prog w = .ok (.pointer (some ⟨g, N, none⟩)) w) (w : World) :
    (execOp a.eval o).run Try.prog w = .ok (.value (.pointer (some ⟨g, N, none⟩))) w := by
  unfold execOp
  rw [ho]
  simp only [hp, hq]
  simp [hrun, Result.andThen]
theorem exec_add1 {v : Int} (hv : 0 ≤ v ∧ v ≤ 1000000) {a : Act} {o : Oper} {p : Operand} {s : TypeId} (ho : o.op = .binOp .add 3 p (.const (.int .i64 1)) s) (hp : a.eval p = .int .i64 v) (w : World) :
    (execOp a.eval o).run Try.prog w = .ok (.value (.int .i64 (v + 1))) w := by
  have h0 : (0 : Int) ≤ v := by omega
  have h1 : v ≤ 1000000 := by omega
  unfold execOp
  rw [ho]
  simp only [hp]
  go_simp
  exact IntWalk.i64_in _ (by omega)
theorem exec_storeI {a : Act} {o : Oper} {p q : Operand} (ho : o.op = .store 3 p q) {g j : Nat} {x v : Int} (hp : a.eval p = .pointer (some ⟨g, j, none⟩)) (hq : a.eval q = .int .i64 v) {w : World} (hc : w.cell? ⟨g, j, none⟩ = some (.int .i64 x)) (hf : w.frozen? ⟨g, j, none⟩ = false) :
    (execOp a.eval o).run Try.prog w = .ok .skip (w.setCell ⟨g, j, none⟩ (.int .i64 v)) := by
  unfold execOp
  rw [ho]
  simp only [hp, hq]
  go_simp
theorem exec_loadI {a : Act} {o : Oper} {p : Operand} (ho : o.op = .load 3 p) {g j : Nat} {x : Int} (hp : a.eval p = .pointer (some ⟨g, j, none⟩)) {w : World} (hc : w.cell? ⟨g, j, none⟩ = some (.int .i64 x)) :
    (execOp a.eval o).run Try.prog w = .ok (.value (.int .i64 x)) w := by
  unfold execOp
  rw [ho]
  simp only [hp]
  go_simp
/-- A number is read out of a cell, as an operation that is carried out. -/
theorem chain_loadI {ops : Array Oper} {S I : World → Prop} {n0 : Nat} {obj : Obj} {fin : Act → (World → Prop) → Prop} (d : Tmp) {i : Nat} {r : List (Bool × Nat)} {a : Act} {o : Oper} {p : Operand} {g j : Nat} {x : Int} (ho : ops[i]? = some o) (hd : o.dst = some d) (hg : o.guard = none) (hop : o.op = .load 3 p)
    (hp : a.eval p = .pointer (some ⟨g, j, none⟩)) (hc : ∀ w, I w → w.cell? ⟨g, j, none⟩ = some (.int .i64 x)) (hS : ∀ w, I w → S w) (hn : ∀ w, I w → n0 ≤ w.heap.size) (hal : ∀ w, I w → I (w.alloc obj))
    (hr : chainA Try.prog ops S n0 obj fin r (a.put (some d) (.int .i64 x)) I) : chainA Try.prog ops S n0 obj fin ((false, i) :: r) a I :=
  ⟨o, ho, hg, fun w hI => by
    rw [exec_loadI hop hp (hc w hI)]
    exact ⟨Below.refl _ _, I, ⟨hS, hn, hal⟩, hI, hd ▸ hr⟩⟩
end Go.Proofs.Ytfbcjcfhdclklaa.cards

/- The law on DeckParting: the array of the cards seen, the cells of its lines, its calls. -/
namespace Go.Proofs.Ytfbcjcfhdclklaa.parting
open Go.RowKit
open cards
set_option linter.unusedVariables false

/-- The cells of an array that tells which of the first k numbers of a list it has seen. -/
def seenA (E : List Int) (k : Nat) : Array Value := ((List.range 81).map fun (j : Nat) => Value.bool (decide ((j : Int) ∈ E.take k))).toArray
theorem seen_zero (E : List Int) : Try.zeroCells53 = seenA E 0 := by
  have h : Try.zeroCells53 = ((List.range 81).map fun (_ : Nat) => Value.bool false).toArray := by kernel_rfl
  rw [h]
  unfold seenA
  simp
theorem seen_size (E : List Int) (k : Nat) : (seenA E k).size = 81 := by simp [seenA]
theorem seen_info (E : List Int) (k : Nat) : ((Try.prog).info? 53).map (·.size) = some (seenA E k).size := by
  rw [seen_size]; kernel_rfl
theorem seen_one (E : List Int) (k : Nat) : (seenA E k).all (·.oneCell') = true := by
  simp [seenA, Value.oneCell']
theorem seen_store (w : World) : (storeCells ⟨w.heap.size, 0, none⟩ (Try.zeroCells53).toList 0).run Try.prog (w.alloc (.cells Try.zeroCells53 53)) = .ok () (w.alloc (.cells Try.zeroCells53 53)) :=
  run_storeCells_new w 53 _ _ (by rw [seen_zero []]; exact seen_info [] 0) rfl (by rw [seen_zero []]; exact seen_one [] 0)
theorem seen_agg (E : List Int) : Value.agg Try.zeroCells53 = .agg (seenA E 0) := by rw [seen_zero E]
theorem seen_get (E : List Int) (k : Nat) {j : Nat} (hj : j < 81) : (seenA E k)[j]? = some (.bool (decide ((j : Int) ∈ E.take k))) := by
  simp [seenA, hj]
theorem seen_new {E : List Int} (h : E.Nodup) {k j : Nat} (hj : j < 81) (hx : E[k]? = some (j : Int)) : (seenA E k)[j]? = some (.bool false) := by
  rw [seen_get E k hj, decide_eq_false (fresh_at h hx)]
theorem seen_step {E : List Int} {k j : Nat} (hj : j < 81) (hx : E[k]? = some (j : Int)) : (seenA E k).set! j (.bool true) = seenA E (k + 1) := by
  apply Array.ext_getElem?
  intro i
  by_cases hi : i < 81
  · rw [seen_get E (k + 1) hi, Array.set!_eq_setIfInBounds, Array.getElem?_setIfInBounds]
    by_cases e : j = i
    · subst e
      rw [if_pos rfl, if_pos (by rw [seen_size]; exact hj), decide_eq_true ((take_more hx _).2 (.inr rfl))]
    · rw [if_neg e, seen_get E k hi]
      have : ((i : Int) ∈ E.take k) ↔ ((i : Int) ∈ E.take (k + 1)) := by
        rw [take_more hx]
        constructor
        · exact fun h => .inl h
        · rintro (h | h)
          · exact h
          · exact absurd (by omega) e
      simp only [this]
  · rw [Array.getElem?_eq_none (by simp [seen_size]; omega), Array.getElem?_eq_none (by simp [seen_size]; omega)]
theorem ownA3_block {w : World} {B m ca : Nat} {pa : Option Addr} {R : List A3} (h : OwnA3 w B (.slice pa m ca) R) (hp : 0 < m) : ∃ ga, pa = some ⟨ga, 0, none⟩ ∧ B ≤ ga ∧ ga < w.heap.size := by
  obtain ⟨h0, ⟨e, e2⟩ | ⟨g, cap, cur, e, hB, hg, hc, hm, hs, ht⟩⟩ := h
  · injection e with _ e; omega
  · injection e with e1
    exact ⟨g, e1, hB, (Array.getElem?_eq_some_iff.1 hg).1⟩
theorem ownA3_cell {w : World} {B m ca ga : Nat} {R : List A3} (h : OwnA3 w B (.slice (some ⟨ga, 0, none⟩) m ca) R) {k : Nat} {t : A3} (ht : R[k]? = some t) :
    w.cell? ⟨ga, k * 3, none⟩ = some (.int .i64 t.a) ∧ w.cell? ⟨ga, k * 3 + 1, none⟩ = some (.int .i64 t.b) ∧ w.cell? ⟨ga, k * 3 + 2, none⟩ = some (.int .i64 t.c) := by
  obtain ⟨p, c, e, _, r, _⟩ := h.form
  injection e with e1 e2 e3
  subst e1
  obtain ⟨b, o, x, e, _, hx, c0, c1, c2⟩ := r.aA3 (k := k) (List.getElem?_eq_some_iff.1 ht).1
  injection e with e
  injection e with e1 e2
  subst e1; subst e2
  obtain rfl : x = t := by rw [hx] at ht; injection ht
  rw [Nat.zero_add] at c0 c1 c2
  exact ⟨c0, c1, c2⟩
theorem ent_cell {E : List Int} {t : A3} {k q : Nat} (hq : q < 3) (h : (0 ≤ t.a ∧ t.a ≤ 80) ∧ (0 ≤ t.b ∧ t.b ≤ 80) ∧ (0 ≤ t.c ∧ t.c ≤ 80)) (e1 : E[3 * k]? = some t.a) (e2 : E[3 * k + 1]? = some t.b) (e3 : E[3 * k + 2]? = some t.c) {w : World} {ga : Nat}
    (hc : w.cell? ⟨ga, k * 3, none⟩ = some (.int .i64 t.a) ∧ w.cell? ⟨ga, k * 3 + 1, none⟩ = some (.int .i64 t.b) ∧ w.cell? ⟨ga, k * 3 + 2, none⟩ = some (.int .i64 t.c)) :
    ∃ j : Nat, j < 81 ∧ w.cell? ⟨ga, k * 3 + q, none⟩ = some (.int .i64 (j : Int)) ∧ E[3 * k + q]? = some (j : Int) := by
  obtain ⟨⟨a1, a2⟩, ⟨b1, b2⟩, c1, c2⟩ := h
  obtain ⟨h1, h2, h3⟩ := hc
  rcases (show q = 0 ∨ q = 1 ∨ q = 2 by omega) with rfl | rfl | rfl
  · have e : ((t.a.toNat : Nat) : Int) = t.a := by omega
    exact ⟨t.a.toNat, by omega, by rw [e]; exact h1, by rw [e]; exact e1⟩
  · have e : ((t.b.toNat : Nat) : Int) = t.b := by omega
    exact ⟨t.b.toNat, by omega, by rw [e]; exact h2, by rw [e]; exact e2⟩
  · have e : ((t.c.toNat : Nat) : Int) = t.c := by omega
    exact ⟨t.c.toNat, by omega, by rw [e]; exact h3, by rw [e]; exact e3⟩
theorem card_call {n : Int} (h0 : 0 ≤ n) (h1 : n ≤ 80) (w : World) :
    Calls Try.prog 42 #[.int .i64 n] w fun e w' => e = .returned (.tuple #[(cdAt n).val, .bool true]) ∧ Below w.heap.size w w' := by
  have h := impl_at n w
  rw [show atR n = (cdAt n, true) by unfold atR; rw [if_pos ⟨h0, h1⟩]] at h
  exact h
theorem line_call {x y z : Cd} (h : lineR x y z = (true, true)) (w : World) :
    Calls Try.prog 43 #[x.val, y.val, z.val] w fun e w' => e = .returned (.tuple #[.bool true, .bool true]) ∧ Below w.heap.size w w' := by
  have h2 := impl_line x y z w
  rw [h] at h2
  exact h2
end Go.Proofs.Ytfbcjcfhdclklaa.parting

/- The law on DeckParting: its walk. -/
namespace Go.Proofs.Ytfbcjcfhdclklaa.parting
open Go.RowKit
open cards draw
set_option linter.unusedVariables false

theorem dp_good {c : Cd} {R : List A3} (h1 : (dpR c).1 = R) (h2 : (dpR c).2 = true) : Good R := by
  unfold dpR at h1 h2
  split at h1
  · rename_i h
    subst h1
    exact good_of (good_dp h.1 h.2)
  · rename_i h
    rw [if_neg h] at h2; cases h2
theorem dp_wf {c : Cd} (R : List A3) (h : (dpR c).1 = R) : ∀ x ∈ R, wf3 x := by
  intro x hx
  cases h2 : (dpR c).2
  · unfold dpR at h h2
    split at h
    · rename_i h3
      rw [if_pos h3] at h2; cases h2
    · subst h; cases hx
  · obtain ⟨i, hi⟩ := List.mem_iff_getElem?.1 hx
    obtain ⟨a1, a2, a3, a4, a5, a6, _⟩ := (dp_good h h2).ln i x hi
    exact ⟨wf_small a1 (by omega), wf_small a3 (by omega), wf_small a5 (by omega)⟩
set_option maxRecDepth 100000 in
set_option maxHeartbeats 8000000 in
theorem law_dp (p : Option Addr) (n c : Nat) (l : List Int) (w : World) (hs : n ≤ 65536) (hr : Rd w p (bys l)) (hl : l.length = n) (hy : isByte l) :
    Calls Try.prog 5 #[.slice p n c] w fun e w' => e = .returned (.bool true) ∧ Below w.heap.size w w' := by
  have HD := Lib.hid (draw_dp p n c l w (by omega) hr hl hy)
  have HV := Lib.hid (v_big p n c w false (decide_eq_false (by omega)))
  clear hr hl hy
  go_enter Try.func5, Try.ntmps5
  go_wp2_with fail
  refine (HV.out).mono ?_
  rintro e w0 ⟨rfl, rfl⟩
  go_wp2_with fail
  refine (HD.out).mono ?_
  rintro e u1 ⟨x, rfl, hx, b⟩
  have HB := Lib.hid b
  have HWx := Lib.hid hx
  clear b hx HV HD
  go_upto_region 4 with fail
  have K0 : Hid (Box (u1.alloc x.obj) u1.heap.size x) := Lib.hid (Box.newAt rfl rfl)
  have HB : Hid (Below w.heap.size w (u1.alloc x.obj)) := Lib.hid (HB.out.alloc HB.out.size _)
  obtain ⟨g, hg⟩ : ∃ g, u1.heap.size = g := ⟨_, rfl⟩
  rw [hg] at K0
  rw [hg]
  clear hg
  generalize u1.alloc x.obj = w2 at *
  have HS2 := Lib.hid HB.out.size
  obtain ⟨k0a, k0b, k0c, k0d⟩ := K0.out.cell
  have k0z := K0.out.lt
  have HL : Hid ((dpR x).1.length ≤ 1000) := Lib.hid (dpR_len x)
  obtain ⟨R, hR⟩ : ∃ R, (dpR x).1 = R := ⟨_, rfl⟩
  obtain ⟨ok, hok⟩ : ∃ ok, (dpR x).2 = ok := ⟨_, rfl⟩
  have HW3 := Lib.hid (dp_wf R hR)
  have HS := Lib.hid (fun w => spec_dp x w)
  have HI := Lib.hid (fun w => impl_dp x w)
  rw [hR] at HL HS HI
  rw [hok] at HS HI
  have HR1 := Lib.hid hR
  have HR2 := Lib.hid hok
  clear hR hok
  obtain ⟨m, hm⟩ : ∃ m, R.length = m := ⟨_, rfl⟩
  have HMm := Lib.hid hm
  rw [hm] at HL
  clear hm
  have Yw3K0 := Lib.hid K0.out.lt
  go_wp2_with fail
  refine ((HI.out _)).mono ?_
  rintro e w3 ⟨va, rfl, oa, b⟩
  obtain ⟨pa, ca, rfl, hca, ra, _⟩ := oa.form
  rw [HMm.out] at oa hca ⊢
  have Sw3 := Lib.hid b.size
  have La := Lib.hid oa.span
  have HB := Lib.hid (chain0 (w := w) (by repeat (first | with_reducible exact Below.refl _ _ | with_reducible exact HB.out | with_reducible apply Below.drew | with_reducible apply bdN | with_reducible refine Below.alloc ?_ (by first | exact Nat.le_refl _ | with_reducible exact HB.out.size | omega | (simp; done) | (simp; omega) | (have := HB.out.size; simp at *; omega)) _ | with_reducible refine Below.setCell ?_ (by first | exact Nat.le_refl _ | with_reducible exact HB.out.size | omega | (simp; done) | (simp; omega) | (have := HB.out.size; simp at *; omega)) _)) b)
  have Zw3 := Lib.hid HB.out.size
  have K0 : Hid (Box _ (g) (x)) := Lib.hid (Box.below (by repeat (first | with_reducible exact K0.out | with_reducible apply Box.drewN | with_reducible apply Box.drew | (with_reducible refine Box.newAt ?_ ?_ <;> first | (simp; done) | rfl) | with_reducible apply Box.alloc)) b)
  try clear k0a k0b k0c k0d k0z
  have k0z := K0.out.lt
  obtain ⟨k0a, k0b, k0c, k0d⟩ := K0.out.cell
  have Oa := Lib.hid oa
  have Ra := Lib.hid ra
  clear b oa ra
  have Yw4K0 := Lib.hid K0.out.lt
  go_wp2_with fail
  refine ((HS.out _)).mono ?_
  rintro e w4 ⟨vb, rfl, ob, b⟩
  obtain ⟨pb, cb, rfl, hcb, rb, _⟩ := ob.form
  rw [HMm.out] at ob hcb ⊢
  have Sw4 := Lib.hid b.size
  have Lb := Lib.hid ob.span
  have HB := Lib.hid (chain0 (w := w) (by repeat (first | with_reducible exact Below.refl _ _ | with_reducible exact HB.out | with_reducible apply Below.drew | with_reducible apply bdN | with_reducible refine Below.alloc ?_ (by first | exact Nat.le_refl _ | with_reducible exact HB.out.size | omega | (simp; done) | (simp; omega) | (have := HB.out.size; simp at *; omega)) _ | with_reducible refine Below.setCell ?_ (by first | exact Nat.le_refl _ | with_reducible exact HB.out.size | omega | (simp; done) | (simp; omega) | (have := HB.out.size; simp at *; omega)) _)) b)
  have Zw4 := Lib.hid HB.out.size
  have Oa := Lib.hid (OwnA3.below (by repeat (first | with_reducible exact Oa.out | with_reducible apply OwnA3.drewN | with_reducible apply OwnA3.drew | with_reducible apply OwnA3.alloc)) b)
  have Ra := Lib.hid (Rd.below (by repeat (first | with_reducible exact Ra.out | with_reducible apply Rd.drewN | with_reducible apply Rd.drew | with_reducible apply Rd.alloc)) b)
  have K0 : Hid (Box _ (g) (x)) := Lib.hid (Box.below (by repeat (first | with_reducible exact K0.out | with_reducible apply Box.drewN | with_reducible apply Box.drew | (with_reducible refine Box.newAt ?_ ?_ <;> first | (simp; done) | rfl) | with_reducible apply Box.alloc)) b)
  try clear k0a k0b k0c k0d k0z
  have k0z := K0.out.lt
  obtain ⟨k0a, k0b, k0c, k0d⟩ := K0.out.cell
  have Ob := Lib.hid ob
  have Rb := Lib.hid rb
  clear b ob rb
  go_wp2_with fail
  refine ((v_lines R pa pb m ca cb _ HMm.out (by have := HL.out; omega) Ra.out Rb.out HW3.out)).mono ?_
  rintro e w5 ⟨rfl, b⟩
  have Sw5 := Lib.hid b.size
  have HB := Lib.hid (chain0 (w := w) (by repeat (first | with_reducible exact Below.refl _ _ | with_reducible exact HB.out | with_reducible apply Below.drew | with_reducible apply bdN | with_reducible refine Below.alloc ?_ (by first | exact Nat.le_refl _ | with_reducible exact HB.out.size | omega | (simp; done) | (simp; omega) | (have := HB.out.size; simp at *; omega)) _ | with_reducible refine Below.setCell ?_ (by first | exact Nat.le_refl _ | with_reducible exact HB.out.size | omega | (simp; done) | (simp; omega) | (have := HB.out.size; simp at *; omega)) _)) b)
  have Oa := Lib.hid (OwnA3.below (by repeat (first | with_reducible exact Oa.out | with_reducible apply OwnA3.drewN | with_reducible apply OwnA3.drew | with_reducible apply OwnA3.alloc)) b)
  have Ra := Lib.hid (Rd.below (by repeat (first | with_reducible exact Ra.out | with_reducible apply Rd.drewN | with_reducible apply Rd.drew | with_reducible apply Rd.alloc)) b)
  have Ob := Lib.hid (OwnA3.below (by repeat (first | with_reducible exact Ob.out | with_reducible apply OwnA3.drewN | with_reducible apply OwnA3.drew | with_reducible apply OwnA3.alloc)) b)
  have Rb := Lib.hid (Rd.below (by repeat (first | with_reducible exact Rb.out | with_reducible apply Rd.drewN | with_reducible apply Rd.drew | with_reducible apply Rd.alloc)) b)
  have K0 : Hid (Box _ (g) (x)) := Lib.hid (Box.below (by repeat (first | with_reducible exact K0.out | with_reducible apply Box.drewN | with_reducible apply Box.drew | (with_reducible refine Box.newAt ?_ ?_ <;> first | (simp; done) | rfl) | with_reducible apply Box.alloc)) b)
  try clear k0a k0b k0c k0d k0z
  have k0z := K0.out.lt
  obtain ⟨k0a, k0b, k0c, k0d⟩ := K0.out.cell
  clear b
  clear HS HI
  cases ok
  · go_wp2_with fail
    go_ret
    exact ⟨rfl, HB.out⟩
  · have HG : Hid (Good R) := Lib.hid (dp_good HR1.out HR2.out)
    have HGl := Lib.hid (show m = 27 by rw [← HMm.out]; exact HG.out.len)
    obtain ⟨E, hE⟩ : ∃ E, ent R = E := ⟨_, rfl⟩
    have HE := Lib.hid hE
    have HEn : Hid E.Nodup := Lib.hid (by rw [← hE]; exact HG.out.nd)
    clear hE
    obtain ⟨ga, rfl, hga, hgb⟩ := ownA3_block Oa.out (by have := HGl.out; omega)
    have HVb : Hid (VB (w5.alloc (.cells Try.zeroCells53 53)) w5.heap.size 53 (seenA E 0)) := Lib.hid (VB.newAt rfl (by rw [← seen_zero E]))
    have HBv : Hid (Below w.heap.size w (w5.alloc (.cells Try.zeroCells53 53))) := Lib.hid (HB.out.alloc HB.out.size _)
    have Oav := Lib.hid (Oa.out.alloc (.cells Try.zeroCells53 53))
    have HSz := Lib.hid HB.out.size
    have hst := seen_store w5
    go_upto_region 11 with fail
    generalize w5.alloc (.cells Try.zeroCells53 53) = w6 at *
    clear hst
    obtain ⟨g8, hg8⟩ : ∃ g8, w5.heap.size = g8 := ⟨_, rfl⟩
    rw [hg8] at HVb
    rw [hg8]
    have HNe : Hid (∀ b, (Value.slice (some ⟨ga, 0, none⟩) m ca).ownBlock = some b → b ≠ g8) := Lib.hid (fun b hb => by
      have h := (World.ownsRow.lt Oa.out b hb).2
      omega)
    have HG8 : Hid (w.heap.size ≤ g8) := Lib.hid (by have := HSz.out; omega)
    have HO0 : Hid (OwnA3 w6 w.heap.size (.slice (some ⟨ga, 0, none⟩) m ca) R) := Lib.hid (OwnA3.base Oav.out HS2.out)
    clear hg8 Oav Oa Ra La
    have HM27 := Lib.hid hgb
    clear hgb hga
    go_wp2_with fail
    go_loopw [9, 10, 11, 12, 13, 14, 15, 16, 17, 18, 19] (fun my i _ _ _ _ _ _ _ _ _ wr => ∃ k z : Nat, k ≤ m ∧ my = .int .i64 z ∧ i = .int .i64 k ∧ Hid (z = 3 * k) ∧ Hid (VB wr g8 53 (seenA E (3 * k))) ∧ Hid (OwnA3 wr w.heap.size (.slice (some ⟨ga, 0, none⟩) m ca) R) ∧ Hid (Below w.heap.size w wr)) (fun _ i _ _ _ _ _ _ _ _ _ _ => m - (intOf i).toNat)
    case atStart => exact ⟨0, 0, Nat.zero_le _, rfl, rfl, Lib.hid rfl, HVb, HO0, HBv⟩
    case round =>
      clear HVb HO0 HBv HB
      obtain ⟨k, z, hk, rfl, rfl, HZ, HVb, Oa, HB⟩ := hrel
      by_cases hlt : k < m
      · obtain ⟨t, ht⟩ : ∃ t, R[k]? = some t := ⟨_, List.getElem?_eq_getElem (by rw [HMm.out]; exact hlt)⟩
        have HT := Lib.hid ht
        obtain ⟨a1, a2, a3, a4, a5, a6, a7⟩ := HG.out.ln k t ht
        obtain ⟨e1, e2, e3⟩ := ent_at R k t ht
        rw [HE.out] at e1 e2 e3
        have HC1 := Lib.hid (fun w => card_call a1 a2 w)
        have HC2 := Lib.hid (fun w => card_call a3 a4 w)
        have HC3 := Lib.hid (fun w => card_call a5 a6 w)
        obtain ⟨X, hX⟩ : ∃ X, cdAt t.a = X := ⟨_, rfl⟩
        obtain ⟨Y, hY⟩ : ∃ Y, cdAt t.b = Y := ⟨_, rfl⟩
        obtain ⟨Z, hZ⟩ : ∃ Z, cdAt t.c = Z := ⟨_, rfl⟩
        rw [hX, hY, hZ] at a7
        rw [hX] at HC1
        rw [hY] at HC2
        rw [hZ] at HC3
        have HLi := Lib.hid (fun w => line_call a7 w)
        have HA := Lib.hid (show (0 ≤ t.a ∧ t.a ≤ 80) ∧ (0 ≤ t.b ∧ t.b ≤ 80) ∧ (0 ≤ t.c ∧ t.c ≤ 80) from ⟨⟨a1, a2⟩, ⟨a3, a4⟩, a5, a6⟩)
        have HE1 := Lib.hid e1
        have HE2 := Lib.hid e2
        have HE3 := Lib.hid e3
        clear ht hX hY hZ a1 a2 a3 a4 a5 a6 a7 e1 e2 e3
        have m0 : (0 : Int) ≤ (k : Int) := by omega
        have m1 : (k : Int) < (m : Int) := by omega
        obtain ⟨c0, c1, c2⟩ := ownA3_cell Oa.out HT.out
        go_wp2_with fail
        refine ((HC1.out _)).mono ?_
        rintro e v1 ⟨rfl, b⟩
        have Sv1 := Lib.hid b.size
        have HB := Lib.hid (chain0 (w := w) (by repeat (first | with_reducible exact Below.refl _ _ | with_reducible exact HB.out | with_reducible apply Below.drew | with_reducible apply bdN | with_reducible refine Below.alloc ?_ (by first | exact Nat.le_refl _ | with_reducible exact HB.out.size | omega | (simp; done) | (simp; omega) | (have := HB.out.size; simp at *; omega)) _ | with_reducible refine Below.setCell ?_ (by first | exact Nat.le_refl _ | with_reducible exact HB.out.size | omega | (simp; done) | (simp; omega) | (have := HB.out.size; simp at *; omega)) _)) b)
        have Oa := Lib.hid (OwnA3.below (by repeat (first | with_reducible exact Oa.out | with_reducible apply OwnA3.drewN | with_reducible apply OwnA3.drew | with_reducible apply OwnA3.alloc)) b)
        have HVb := Lib.hid (VB.below (by repeat (first | with_reducible exact HVb.out | with_reducible apply VB.drewN | with_reducible apply VB.drew | with_reducible apply VB.alloc)) b)
        clear b
        clear c0 c1 c2
        obtain ⟨c0, c1, c2⟩ := ownA3_cell (Oa.out.alloc (.cells #[.int .i64 X.a, .int .i64 X.b, .int .i64 X.c, .int .i64 X.d] 48)) HT.out
        go_wp2_with fail
        refine ((HC2.out _)).mono ?_
        rintro e v2 ⟨rfl, b⟩
        have Sv2 := Lib.hid b.size
        have HB := Lib.hid (chain0 (w := w) (by repeat (first | with_reducible exact Below.refl _ _ | with_reducible exact HB.out | with_reducible apply Below.drew | with_reducible apply bdN | with_reducible refine Below.alloc ?_ (by first | exact Nat.le_refl _ | with_reducible exact HB.out.size | omega | (simp; done) | (simp; omega) | (have := HB.out.size; simp at *; omega)) _ | with_reducible refine Below.setCell ?_ (by first | exact Nat.le_refl _ | with_reducible exact HB.out.size | omega | (simp; done) | (simp; omega) | (have := HB.out.size; simp at *; omega)) _)) b)
        have Oa := Lib.hid (OwnA3.below (by repeat (first | with_reducible exact Oa.out | with_reducible apply OwnA3.drewN | with_reducible apply OwnA3.drew | with_reducible apply OwnA3.alloc)) b)
        have HVb := Lib.hid (VB.below (by repeat (first | with_reducible exact HVb.out | with_reducible apply VB.drewN | with_reducible apply VB.drew | with_reducible apply VB.alloc)) b)
        have K1 : Hid (Box _ (v1.heap.size) (X)) := Lib.hid (Box.below (by repeat (first | with_reducible exact K1.out | with_reducible apply Box.drewN | with_reducible apply Box.drew | (with_reducible refine Box.newAt ?_ ?_ <;> first | (simp; done) | rfl) | with_reducible apply Box.alloc)) b)
        try clear k1a k1b k1c k1d k1z
        have k1z := K1.out.lt
        obtain ⟨k1a, k1b, k1c, k1d⟩ := K1.out.cell
        clear b
        clear c0 c1 c2
        obtain ⟨c0, c1, c2⟩ := ownA3_cell (Oa.out.alloc (.cells #[.int .i64 Y.a, .int .i64 Y.b, .int .i64 Y.c, .int .i64 Y.d] 48)) HT.out
        go_wp2_with fail
        refine ((HC3.out _)).mono ?_
        rintro e v3 ⟨rfl, b⟩
        have Sv3 := Lib.hid b.size
        have HB := Lib.hid (chain0 (w := w) (by repeat (first | with_reducible exact Below.refl _ _ | with_reducible exact HB.out | with_reducible apply Below.drew | with_reducible apply bdN | with_reducible refine Below.alloc ?_ (by first | exact Nat.le_refl _ | with_reducible exact HB.out.size | omega | (simp; done) | (simp; omega) | (have := HB.out.size; simp at *; omega)) _ | with_reducible refine Below.setCell ?_ (by first | exact Nat.le_refl _ | with_reducible exact HB.out.size | omega | (simp; done) | (simp; omega) | (have := HB.out.size; simp at *; omega)) _)) b)
        have Oa := Lib.hid (OwnA3.below (by repeat (first | with_reducible exact Oa.out | with_reducible apply OwnA3.drewN | with_reducible apply OwnA3.drew | with_reducible apply OwnA3.alloc)) b)
        have HVb := Lib.hid (VB.below (by repeat (first | with_reducible exact HVb.out | with_reducible apply VB.drewN | with_reducible apply VB.drew | with_reducible apply VB.alloc)) b)
        have K1 : Hid (Box _ (v1.heap.size) (X)) := Lib.hid (Box.below (by repeat (first | with_reducible exact K1.out | with_reducible apply Box.drewN | with_reducible apply Box.drew | (with_reducible refine Box.newAt ?_ ?_ <;> first | (simp; done) | rfl) | with_reducible apply Box.alloc)) b)
        have K2 : Hid (Box _ (v2.heap.size) (Y)) := Lib.hid (Box.below (by repeat (first | with_reducible exact K2.out | with_reducible apply Box.drewN | with_reducible apply Box.drew | (with_reducible refine Box.newAt ?_ ?_ <;> first | (simp; done) | rfl) | with_reducible apply Box.alloc)) b)
        try clear k1a k1b k1c k1d k1z
        have k1z := K1.out.lt
        obtain ⟨k1a, k1b, k1c, k1d⟩ := K1.out.cell
        try clear k2a k2b k2c k2d k2z
        have k2z := K2.out.lt
        obtain ⟨k2a, k2b, k2c, k2d⟩ := K2.out.cell
        clear b
        clear c0 c1 c2
        go_wp2_with fail
        refine ((HLi.out _)).mono ?_
        rintro e v4 ⟨rfl, b⟩
        have Sv4 := Lib.hid b.size
        have HB := Lib.hid (chain0 (w := w) (by repeat (first | with_reducible exact Below.refl _ _ | with_reducible exact HB.out | with_reducible apply Below.drew | with_reducible apply bdN | with_reducible refine Below.alloc ?_ (by first | exact Nat.le_refl _ | with_reducible exact HB.out.size | omega | (simp; done) | (simp; omega) | (have := HB.out.size; simp at *; omega)) _ | with_reducible refine Below.setCell ?_ (by first | exact Nat.le_refl _ | with_reducible exact HB.out.size | omega | (simp; done) | (simp; omega) | (have := HB.out.size; simp at *; omega)) _)) b)
        have Oa := Lib.hid (OwnA3.below (by repeat (first | with_reducible exact Oa.out | with_reducible apply OwnA3.drewN | with_reducible apply OwnA3.drew | with_reducible apply OwnA3.alloc)) b)
        have HVb := Lib.hid (VB.below (by repeat (first | with_reducible exact HVb.out | with_reducible apply VB.drewN | with_reducible apply VB.drew | with_reducible apply VB.alloc)) b)
        have K1 : Hid (Box _ (v1.heap.size) (X)) := Lib.hid (Box.below (by repeat (first | with_reducible exact K1.out | with_reducible apply Box.drewN | with_reducible apply Box.drew | (with_reducible refine Box.newAt ?_ ?_ <;> first | (simp; done) | rfl) | with_reducible apply Box.alloc)) b)
        have K2 : Hid (Box _ (v2.heap.size) (Y)) := Lib.hid (Box.below (by repeat (first | with_reducible exact K2.out | with_reducible apply Box.drewN | with_reducible apply Box.drew | (with_reducible refine Box.newAt ?_ ?_ <;> first | (simp; done) | rfl) | with_reducible apply Box.alloc)) b)
        have K3 : Hid (Box _ (v3.heap.size) (Z)) := Lib.hid (Box.below (by repeat (first | with_reducible exact K3.out | with_reducible apply Box.drewN | with_reducible apply Box.drew | (with_reducible refine Box.newAt ?_ ?_ <;> first | (simp; done) | rfl) | with_reducible apply Box.alloc)) b)
        try clear k1a k1b k1c k1d k1z
        have k1z := K1.out.lt
        obtain ⟨k1a, k1b, k1c, k1d⟩ := K1.out.cell
        try clear k2a k2b k2c k2d k2z
        have k2z := K2.out.lt
        obtain ⟨k2a, k2b, k2c, k2d⟩ := K2.out.cell
        try clear k3a k3b k3c k3d k3z
        have k3z := K3.out.lt
        obtain ⟨k3a, k3b, k3c, k3d⟩ := K3.out.cell
        clear b
        clear HC1 HC2 HC3 HLi
        obtain ⟨c0, c1, c2⟩ := ownA3_cell Oa.out HT.out
        clear c1 c2
        have hreg : True := trivial
        by_cases hk0 : 0 < k
        · obtain ⟨r, hr⟩ : ∃ r : Nat, k = r + 1 := ⟨k - 1, by omega⟩
          obtain ⟨s, hs2⟩ : ∃ s, R[r]? = some s := ⟨_, List.getElem?_eq_getElem (by rw [HMm.out]; omega)⟩
          have hup := HG.out.up r s t hs2 (by rw [← hr]; exact HT.out)
          obtain ⟨d0, d1, d2⟩ := ownA3_cell Oa.out hs2
          have hd : decide (0 < k) = true := decide_eq_true hk0
          have hle : decide (t.a ≤ s.a) = false := decide_eq_false (by omega)
          have hw : IntKind.i64.wrap ((k : Int) - 1) = (r : Int) := by rw [show (k : Int) - 1 = (r : Int) by omega]; exact IntWalk.i64_in _ (by have := HL.out; omega)
          have n0 : (0 : Int) ≤ (r : Int) := by omega
          have n1 : (r : Int) < (m : Int) := by omega
          clear hs2 hup hk0 d1 d2 hr
          go_upto_region 18 with fail
          go_quiet (fail)
          have HB : Hid (Below w.heap.size w (v4.drewN nq)) := Lib.hid (bdN HB.out _)
          have Oa : Hid (OwnA3 (v4.drewN nq) w.heap.size (.slice (some ⟨ga, 0, none⟩) m ca) R) := Lib.hid Oa.out
          have HVb : Hid (VB (v4.drewN nq) g8 53 (seenA E (3 * k + 0))) := Lib.hid (HVb.out.drewN _)
          have HZ : Hid (z = 3 * k + 0) := Lib.hid HZ.out
          clear c0 d0 hd hle hw n0 n1 hreg
          generalize v4.drewN nq = v5 at *
          go_wp2_with fail
          go_loopw [9, 19] (fun my kk wr => ∃ q z2 : Nat, q ≤ 3 ∧ my = .int .i64 z2 ∧ kk = .int .i64 q ∧ Hid (z2 = 3 * k + q) ∧ Hid (VB wr g8 53 (seenA E (3 * k + q))) ∧ Hid (OwnA3 wr w.heap.size (.slice (some ⟨ga, 0, none⟩) m ca) R) ∧ Hid (Below w.heap.size w wr)) (fun _ kk _ => 3 - (intOf kk).toNat)
          case atStart => exact ⟨0, z, by omega, rfl, rfl, HZ, HVb, Oa, HB⟩
          case round =>
            clear HVb Oa HB HZ
            obtain ⟨q, z2, hq, rfl, rfl, HZ, HVb, Oa, HB⟩ := hrel
            by_cases hq3 : q < 3
            · obtain ⟨j, hj, cq, hE⟩ := ent_cell (q := q) hq3 HA.out HE1.out HE2.out HE3.out (ownA3_cell Oa.out HT.out)
              have HEj := Lib.hid hE
              have hs := HVb.out.at_ (seen_new HEn.out hj hE)
              have hf := HVb.out.frozen
              have hz := HVb.out.lt
              have q0 : (0 : Int) ≤ (q : Int) := by omega
              have q1 : (q : Int) < 3 := by omega
              have j0 : (0 : Int) ≤ (j : Int) := by omega
              have j1 : (j : Int) < 81 := by omega
              have hz2 : z2 ≤ 1000 := by have := HZ.out; have := HGl.out; omega
              clear hE
              go_wp2_with fail
              go_roundw
              case rel => exact ⟨q + 1, z2 + 1, by omega, by go_num, by go_num, Lib.hid (by have := HZ.out; omega), Lib.hid (VB.set_ HVb.out (seen_step hj HEj.out)), Lib.hid (ownA3_kept Oa.out (grown_set wr g8 j _) HNe.out), Lib.hid (HB.out.setCell (by simp only; exact HG8.out) _)⟩
              case measure => simp [intOf]; omega
            · have hm2 := HL.out
              obtain rfl : q = 3 := by omega
              go_wp2_with fail
              go_roundw
              case rel => exact ⟨k + 1, z2, by omega, rfl, by go_num, Lib.hid (by have := HZ.out; omega), HVb, Oa, HB⟩
              case measure => simp [intOf]; omega
        · have hd : decide (0 < k) = false := decide_eq_false hk0
          clear hk0
          go_upto_region 18 with fail
          go_quiet (fail)
          have HB : Hid (Below w.heap.size w (v4.drewN nq)) := Lib.hid (bdN HB.out _)
          have Oa : Hid (OwnA3 (v4.drewN nq) w.heap.size (.slice (some ⟨ga, 0, none⟩) m ca) R) := Lib.hid Oa.out
          have HVb : Hid (VB (v4.drewN nq) g8 53 (seenA E (3 * k + 0))) := Lib.hid (HVb.out.drewN _)
          have HZ : Hid (z = 3 * k + 0) := Lib.hid HZ.out
          clear c0 hd hreg
          generalize v4.drewN nq = v5 at *
          go_wp2_with fail
          go_loopw [9, 19] (fun my kk wr => ∃ q z2 : Nat, q ≤ 3 ∧ my = .int .i64 z2 ∧ kk = .int .i64 q ∧ Hid (z2 = 3 * k + q) ∧ Hid (VB wr g8 53 (seenA E (3 * k + q))) ∧ Hid (OwnA3 wr w.heap.size (.slice (some ⟨ga, 0, none⟩) m ca) R) ∧ Hid (Below w.heap.size w wr)) (fun _ kk _ => 3 - (intOf kk).toNat)
          case atStart => exact ⟨0, z, by omega, rfl, rfl, HZ, HVb, Oa, HB⟩
          case round =>
            clear HVb Oa HB HZ
            obtain ⟨q, z2, hq, rfl, rfl, HZ, HVb, Oa, HB⟩ := hrel
            by_cases hq3 : q < 3
            · obtain ⟨j, hj, cq, hE⟩ := ent_cell (q := q) hq3 HA.out HE1.out HE2.out HE3.out (ownA3_cell Oa.out HT.out)
              have HEj := Lib.hid hE
              have hs := HVb.out.at_ (seen_new HEn.out hj hE)
              have hf := HVb.out.frozen
              have hz := HVb.out.lt
              have q0 : (0 : Int) ≤ (q : Int) := by omega
              have q1 : (q : Int) < 3 := by omega
              have j0 : (0 : Int) ≤ (j : Int) := by omega
              have j1 : (j : Int) < 81 := by omega
              have hz2 : z2 ≤ 1000 := by have := HZ.out; have := HGl.out; omega
              clear hE
              go_wp2_with fail
              go_roundw
              case rel => exact ⟨q + 1, z2 + 1, by omega, by go_num, by go_num, Lib.hid (by have := HZ.out; omega), Lib.hid (VB.set_ HVb.out (seen_step hj HEj.out)), Lib.hid (ownA3_kept Oa.out (grown_set wr g8 j _) HNe.out), Lib.hid (HB.out.setCell (by simp only; exact HG8.out) _)⟩
              case measure => simp [intOf]; omega
            · have hm2 := HL.out
              obtain rfl : q = 3 := by omega
              go_wp2_with fail
              go_roundw
              case rel => exact ⟨k + 1, z2, by omega, rfl, by go_num, Lib.hid (by have := HZ.out; omega), HVb, Oa, HB⟩
              case measure => simp [intOf]; omega
      · obtain rfl : k = m := by omega
        obtain rfl : z = 81 := by have := HZ.out; have := HGl.out; omega
        go_wp2_with fail
        go_ret
        exact ⟨rfl, HB.out⟩
end Go.Proofs.Ytfbcjcfhdclklaa.parting

