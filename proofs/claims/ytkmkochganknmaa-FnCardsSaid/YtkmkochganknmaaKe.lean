/- Draws: two cards, three cards, a number. -/
import Derived.Test.YtkmkochganknmaaKd
namespace Go.Proofs.Ytkmkochganknmaa.draw
open Go.RowKit
open cards
set_option linter.unusedVariables false

theorem Cur.new {w : World} {g : Nat} {p : Option Addr} {n c : Nat} {l : List Int} (hg : w.heap.size = g) (hr : Rd w p (bys l)) (hl : l.length = n) (hy : isByte l) : Cur (w.alloc (Cv.obj ⟨.slice p n c, 0, 0⟩)) g p n c l 0 := by
  refine ⟨0, 0, CBox.newAt hg rfl, by omega, by omega, Rd.alloc hr _, hl, hy, fun h0 q e => ?_⟩
  obtain ⟨b, o, e2, hb, _⟩ := hr (by simp; omega)
  rw [e2] at e
  cases e
  simp only
  omega

theorem Cur.by2 {w w1 : World} {g g2 : Nat} {p : Option Addr} {n c : Nat} {l : List Int} {N : Nat} (h : Cur w g p n c l N) (hG : w.grownBy w1 (some g2)) (hne : g2 ≠ g) (hf : 0 < n → ∀ q, p = some q → q.block ≠ g2) : Cur w1 g p n c l N := by
  obtain ⟨a, s, hb, h0, h1, hr, hl, h2⟩ := h
  exact ⟨a, s, (hG.block g hb.lt (fun e => hne (by cases e; rfl))).trans hb, h0, h1, Rd.grown hr hG (fun hp => hf (by simp at hp; omega)), hl, h2⟩
theorem Cur.set4 {w : World} {g g2 : Nat} {p : Option Addr} {n c : Nat} {l : List Int} {N : Nat} (h : Cur w g p n c l N) (hne : g2 < g) (hf : Far p n g2) (x : Cd) : Cur ((((w.setCell ⟨g2, 0, none⟩ (.int .i64 x.a)).setCell ⟨g2, 1, none⟩ (.int .i64 x.b)).setCell ⟨g2, 2, none⟩ (.int .i64 x.c)).setCell ⟨g2, 3, none⟩ (.int .i64 x.d)) g p n c l N :=
  h.by2 (grown_set4 w g2 x) (by omega) (fun h0 q e => Nat.ne_of_lt (hf h0 q e))
theorem res_22 {fn : Func} {i j : Tmp} (hf : fn.results = #[.cell i 24, .cell j 24]) {tmps : Array Value} {w : World} {g k : Nat} {x y : Cd} (ht : tmps.getD i undef = .pointer (some ⟨g, 0, none⟩)) (hu : tmps.getD j undef = .pointer (some ⟨k, 0, none⟩)) (h : Box w g x) (h2 : Box w k y) :
    (results fn tmps).run Try.prog w = .ok (.tuple #[x.val, y.val]) w := by
  have hl := load_cardC h
  have hl2 := load_cardC h2
  rw [Array.getD_eq_getD_getElem?] at ht hu
  simp only [results, hf]
  simp [Sem.run_bind, ht, hu, asAddr, hl, hl2]

set_option maxRecDepth 100000 in
set_option maxHeartbeats 4000000 in
theorem draw_third (p : Option Addr) (n c : Nat) (l : List Int) (w : World) (hm : n ≤ 1000000000) (hr : Rd w p (bys l)) (hl : l.length = n) (hy : isByte l) :
    Calls Try.prog 5 #[.slice p n c] w fun e w' => ∃ x y : Cd, e = .returned (.tuple #[x.val, y.val]) ∧ wf4 x ∧ wf4 y ∧ Below w.heap.size w w' := by
  have HC : Hid (Cur (((w.alloc zero.obj).alloc zero.obj).alloc (Cv.obj ⟨.slice p n c, 0, 0⟩)) (w.heap.size + 1 + 1) p n c l 0) := Lib.hid (Cur.new (by simp) ((hr.alloc _).alloc _) hl hy)
  have HB : Hid (Below w.heap.size w (((w.alloc zero.obj).alloc zero.obj).alloc (Cv.obj ⟨.slice p n c, 0, 0⟩))) := Lib.hid ((((Below.refl _ _).alloc (Nat.le_refl _) _).alloc (by simp) _).alloc (by simp; omega) _)
  have K2 : Hid (Box (((w.alloc zero.obj).alloc zero.obj).alloc (Cv.obj ⟨.slice p n c, 0, 0⟩)) w.heap.size zero) := Lib.hid (((Box.new w zero).alloc _).alloc _)
  have K3 : Hid (Box (((w.alloc zero.obj).alloc zero.obj).alloc (Cv.obj ⟨.slice p n c, 0, 0⟩)) (w.heap.size + 1) zero) := Lib.hid ((Box.newAt (by simp) rfl).alloc _)
  have HF : Hid (Far p n w.heap.size) := Lib.hid (fun h0 q e => by obtain ⟨b, o, e2, hb, _⟩ := hr (by simp; omega); rw [e2] at e; cases e; exact hb)
  clear hr hl hy
  go_enter Try.func5, Try.ntmps5
  go_wp2_with fail
  generalize (((w.alloc zero.obj).alloc zero.obj).alloc (Cv.obj ⟨.slice p n c, 0, 0⟩)) = W at *
  refine (card_ (w.heap.size + 1 + 1) p n c l 0 _ (by omega) hm HC.out).mono ?_
  rintro e w1 ⟨x, rfl, hx, C, G⟩
  have HX := Lib.hid hx
  have HB := Lib.hid (Below.grown HB.out G HB.out.size (fun k hk => by injection hk with hk; omega))
  have K2 := Lib.hid (Box.by_ K2.out G (by omega))
  have K3 := Lib.hid (Box.by_ K3.out G (by omega))
  have HC := Lib.hid (C.alloc x.obj)
  have K2 := Lib.hid (K2.out.alloc x.obj)
  have K3 := Lib.hid (K3.out.alloc x.obj)
  have K5 := Lib.hid (Box.new w1 x)
  have HB := Lib.hid (Below.alloc HB.out HB.out.size x.obj)
  have H5 : Hid (w.heap.size + 1 + 1 < w1.heap.size) := Lib.hid C.lt
  clear hx C G
  obtain ⟨c0, c1, c2, c3⟩ := K5.out.cell
  go_upto_region 3 with fail
  generalize w1.alloc x.obj = w2 at *
  have H8 : Hid (8 ≤ 700000) := Lib.hid (by omega)
  have HQ : Hid (w.heap.size < w.heap.size + 1 + 1) := Lib.hid (by omega)
  have HQ3 : Hid (w.heap.size + 1 < w.heap.size + 1 + 1) := Lib.hid (by omega)
  have H25 : Hid (w.heap.size < w1.heap.size) := Lib.hid (by have := H5.out; omega)
  have HG2 : Hid (∀ k, some (w.heap.size + 1 + 1) = some k → w.heap.size ≤ k) := Lib.hid (fun k hk => by injection hk with hk; omega)
  have HG3 : Hid (∀ k, some (w.heap.size + 1) = some k → w.heap.size ≤ k) := Lib.hid (fun k hk => by injection hk with hk; omega)
  have HG1 : Hid (∀ k, some w.heap.size = some k → w.heap.size ≤ k) := Lib.hid (fun k hk => by injection hk with hk; omega)
  obtain ⟨d0, d1, d2, d3⟩ := K2.out.cell
  obtain ⟨e0, e1, e2, e3⟩ := K3.out.cell
  have f2 := K2.out.frozen
  have f3 := K3.out.frozen
  have z2 := K2.out.lt
  have z3 := K3.out.lt
  have HCd : Hid (Cur w2.drew (w.heap.size + 1 + 1) p n c l 8) := Lib.hid HC.out.drew
  have HBd : Hid (Below w.heap.size w w2.drew) := Lib.hid HB.out.drew
  have K2d : Hid (Box w2.drew w.heap.size zero) := Lib.hid K2.out.drew
  have K3d : Hid (Box w2.drew (w.heap.size + 1) zero) := Lib.hid K3.out.drew
  have K5d : Hid (Box w2.drew w1.heap.size x) := Lib.hid K5.out.drew
  go_region_with (go_at_call 24; refine Calls.mono (near_ x (w.heap.size + 1 + 1) p n c l 8 _ H8.out hm HX.out ?_) ?_; (repeat (first | with_reducible exact HCd.out | with_reducible apply Cur.drew | with_reducible refine Cur.set4 ?_ HQ.out HF.out _)); rintro e w3 ⟨y, rfl, hy, C, G⟩; have HY := Lib.hid hy; (first | (have A2 := Lib.hid (Box.by_ K2d.out G (Nat.ne_of_gt HQ.out)); have A3 := Lib.hid (Box.by_ K3d.out G (Nat.ne_of_gt HQ3.out)); have A5 := Lib.hid (Box.by_ K5d.out G (Nat.ne_of_lt H5.out)); have HB := Lib.hid (Below.grown HBd.out G HBd.out.size HG2.out)) | (have A2 := Lib.hid (Box.by_ (Box.set_ K2d.out x) G (Nat.ne_of_gt HQ.out)); have A3 := Lib.hid (Box.by_ (Box.by_ K3d.out (grown_set4 _ w.heap.size x) (Nat.ne_of_lt (Nat.lt_succ_self _))) G (Nat.ne_of_gt HQ3.out)); have A5 := Lib.hid (Box.by_ (Box.by_ K5d.out (grown_set4 _ w.heap.size x) (Nat.ne_of_lt H25.out)) G (Nat.ne_of_lt H5.out)); have HB := Lib.hid (Below.grown (Below.grown HBd.out (grown_set4 _ w.heap.size x) HBd.out.size HG1.out) G (Nat.le_trans HBd.out.size (grown_set4 _ w.heap.size x).size) HG2.out))); clear C G hy; clear d0 d1 d2 d3 e0 e1 e2 e3 c0 c1 c2 c3 f2 f3 z2 z3; obtain ⟨d0, d1, d2, d3⟩ := A2.out.cell; obtain ⟨e0, e1, e2, e3⟩ := A3.out.cell; obtain ⟨c0, c1, c2, c3⟩ := A5.out.cell; have f2 := A2.out.frozen; have f3 := A3.out.frozen; have z2 := A2.out.lt; have z3 := A3.out.lt)
  all_goals
    go_wp2_with fail
    try simp only [Exit.inBlock, Exit.then]
    first
      | refine bodyPost_ret (res_22 Try.results5 rfl rfl (Box.by_ (Box.set_ A2.out x) (grown_set4 _ (w.heap.size + 1) y) (Nat.ne_of_gt (Nat.lt_succ_self _))) (Box.set_ (Box.by_ A3.out (grown_set4 _ w.heap.size x) (Nat.ne_of_lt (Nat.lt_succ_self _))) y)) rfl ?_
        exact ⟨x, y, rfl, HX.out, HY.out, Below.grown (Below.grown HB.out (grown_set4 _ w.heap.size x) HB.out.size HG1.out) (grown_set4 _ (w.heap.size + 1) y) (Nat.le_trans HB.out.size (grown_set4 _ w.heap.size x).size) HG3.out⟩
      | refine bodyPost_ret (res_22 Try.results5 rfl rfl (Box.by_ A2.out (grown_set4 _ (w.heap.size + 1) y) (Nat.ne_of_gt (Nat.lt_succ_self _))) (Box.set_ A3.out y)) rfl ?_
        exact ⟨x, y, rfl, HX.out, HY.out, Below.grown HB.out (grown_set4 _ (w.heap.size + 1) y) HB.out.size HG3.out⟩
end Go.Proofs.Ytkmkochganknmaa.draw
