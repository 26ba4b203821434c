/- Draws: three cards, a number. -/
import Derived.Test.YtkmkochganknmaaKe
import Derived.Test.YtkmkochganknmaaVu
namespace Go.Proofs.Ytkmkochganknmaa.draw
open Go.RowKit
open cards reg
set_option linter.unusedVariables false

abbrev put4 (w : World) (g : Nat) (x : Cd) : World := (((w.setCell ⟨g, 0, none⟩ (.int .i64 x.a)).setCell ⟨g, 1, none⟩ (.int .i64 x.b)).setCell ⟨g, 2, none⟩ (.int .i64 x.c)).setCell ⟨g, 3, none⟩ (.int .i64 x.d)
theorem res_222 {fn : Func} {i j k : Tmp} (hf : fn.results = #[.cell i 24, .cell j 24, .cell k 24]) {tmps : Array Value} {w : World} {g1 g2 g3 : Nat} {x y z : Cd} (ht : tmps.getD i undef = .pointer (some ⟨g1, 0, none⟩)) (hu : tmps.getD j undef = .pointer (some ⟨g2, 0, none⟩)) (hv : tmps.getD k undef = .pointer (some ⟨g3, 0, none⟩)) (h : Box w g1 x) (h2 : Box w g2 y) (h3 : Box w g3 z) :
    (results fn tmps).run Try.prog w = .ok (.tuple #[x.val, y.val, z.val]) w := by
  have hl := load_cardC h
  have hl2 := load_cardC h2
  have hl3 := load_cardC h3
  rw [Array.getD_eq_getD_getElem?] at ht hu hv
  simp only [results, hf]
  simp [Sem.run_bind, ht, hu, hv, asAddr, hl, hl2, hl3]

/-- What is known while the region goes. -/
structure DZ (w0 : World) (q7 q8 : Nat) (x y : Cd) (w : World) : Prop where
  below : Below w0.heap.size w0 w
  a : Box w q7 x
  b : Box w q8 y
structure DI (w0 : World) (q7 q8 : Nat) (x y : Cd) (w : World) : Prop extends DZ w0 q7 q8 x y w where
  k2 : Box w w0.heap.size zero
  k3 : Box w (w0.heap.size + 1) zero
  k4 : Box w (w0.heap.size + 1 + 1) zero
theorem DZ.set {w0 : World} {q7 q8 : Nat} {x y : Cd} {w w1 : World} {g : Nat} (h : DZ w0 q7 q8 x y w) (G : w.grownBy w1 (some g)) (h0 : w0.heap.size ≤ g) (h7 : g ≠ q7) (h8 : g ≠ q8) : DZ w0 q7 q8 x y w1 :=
  ⟨Below.grown h.below G h.below.size (fun k hk => by injection hk with hk; omega), Box.by_ h.a G h7, Box.by_ h.b G h8⟩
theorem DI.set {w0 : World} {q7 q8 : Nat} {x y : Cd} {w w1 : World} {g : Nat} (h : DI w0 q7 q8 x y w) (G : w.grownBy w1 (some g)) (h0 : w0.heap.size + 1 + 1 < g) (h7 : g ≠ q7) (h8 : g ≠ q8) : DI w0 q7 q8 x y w1 :=
  ⟨h.toDZ.set G (by omega) h7 h8, Box.by_ h.k2 G (by omega), Box.by_ h.k3 G (by omega), Box.by_ h.k4 G (by omega)⟩
theorem DI.step {w0 : World} {q7 q8 : Nat} {x y : Cd} {w w1 : World} (h : DI w0 q7 q8 x y w) (b : Below w.heap.size w w1) : DI w0 q7 q8 x y w1 :=
  ⟨⟨chain0 h.toDZ.below b, Box.below h.a b, Box.below h.b b⟩, Box.below h.k2 b, Box.below h.k3 b, Box.below h.k4 b⟩
theorem DI.drew {w0 : World} {q7 q8 : Nat} {x y : Cd} {w : World} (h : DI w0 q7 q8 x y w) : DI w0 q7 q8 x y w.drew :=
  ⟨⟨h.toDZ.below.drew, h.a, h.b⟩, h.k2, h.k3, h.k4⟩
/-- A call whose answer is not told by its arguments alone. -/
theorem s_callE {ops : Array Oper} {S : World → Prop} {K : Act → World → Prop} (d : Tmp) {i : Nat} {r : List (Bool × Nat)} {a : Act} {I : World → Prop} {ι : Type} (R : ι → World → Prop) (val : ι → Value) {f : FuncId} {args : Array Value} {o : Oper} (ho : ops[i]? = some o) (hd : o.dst = some d) (hg : Region.wanted o (yielded ops a.tmps) = true)
    (he : ∀ w, (execOp a.eval o).run Try.prog w = .ok (.enter f args) w) (hS : ∀ v w, R v w → S w) (h : ∀ w, I w → Calls Try.prog f args w (fun e w' => ∃ v, e = .returned (val v) ∧ R v w'))
    (hr : ∀ v w, R v w → chainW Try.prog ops S K r (a.put (some d) (val v)) (R v)) : chainW Try.prog ops S K ((false, i) :: r) a I :=
  ⟨o, ho, hg, fun w hI => by
    rw [he]
    exact (h w hI).mono fun e w' ⟨v, h1, h2⟩ => ⟨val v, h1, R v, hS v, h2, hd ▸ hr v w' h2⟩⟩

set_option maxRecDepth 100000 in
set_option maxHeartbeats 8000000 in
theorem draw_line (p : Option Addr) (n c : Nat) (l : List Int) (w : World) (hm : n ≤ 1000000000) (hr : Rd w p (bys l)) (hl : l.length = n) (hy : isByte l) :
    Calls Try.prog 8 #[.slice p n c] w fun e w' => ∃ x y z : Cd, e = .returned (.tuple #[x.val, y.val, z.val]) ∧ wf4 x ∧ wf4 y ∧ wf4 z ∧ Below w.heap.size w w' := by
  have HC : Hid (Cur ((((w.alloc zero.obj).alloc zero.obj).alloc zero.obj).alloc (Cv.obj ⟨.slice p n c, 0, 0⟩)) (w.heap.size + 1 + 1 + 1) p n c l 0) := Lib.hid (Cur.new (by simp) (((hr.alloc _).alloc _).alloc _) hl hy)
  have HB : Hid (Below w.heap.size w ((((w.alloc zero.obj).alloc zero.obj).alloc zero.obj).alloc (Cv.obj ⟨.slice p n c, 0, 0⟩))) := Lib.hid (((((Below.refl _ _).alloc (Nat.le_refl _) _).alloc (by simp) _).alloc (by simp; omega) _).alloc (by simp; omega) _)
  have K2 : Hid (Box ((((w.alloc zero.obj).alloc zero.obj).alloc zero.obj).alloc (Cv.obj ⟨.slice p n c, 0, 0⟩)) w.heap.size zero) := Lib.hid ((((Box.new w zero).alloc _).alloc _).alloc _)
  have K3 : Hid (Box ((((w.alloc zero.obj).alloc zero.obj).alloc zero.obj).alloc (Cv.obj ⟨.slice p n c, 0, 0⟩)) (w.heap.size + 1) zero) := Lib.hid (((Box.newAt (by simp) rfl).alloc _).alloc _)
  have K4 : Hid (Box ((((w.alloc zero.obj).alloc zero.obj).alloc zero.obj).alloc (Cv.obj ⟨.slice p n c, 0, 0⟩)) (w.heap.size + 1 + 1) zero) := Lib.hid ((Box.newAt (by simp) rfl).alloc _)
  have HF : Hid (Far p n w.heap.size) := Lib.hid (fun h0 q e => by obtain ⟨b, o, e2, hb, _⟩ := hr (by simp; omega); rw [e2] at e; cases e; exact hb)
  have HN : Hid (22 ≤ 700000) := Lib.hid (by omega)
  clear hr hl hy
  go_enter Try.func8, Try.ntmps8
  go_wp2_with fail
  generalize ((((w.alloc zero.obj).alloc zero.obj).alloc zero.obj).alloc (Cv.obj ⟨.slice p n c, 0, 0⟩)) = W at *
  refine (one_ 3 (w.heap.size + 1 + 1 + 1) p n c l 0 _ (by omega) hm (by omega) (by omega) HC.out).mono ?_
  rintro e w1 ⟨o, rfl, C, G⟩
  have HB := Lib.hid (Below.grown HB.out G HB.out.size (fun k hk => by injection hk with hk; omega))
  have K2 := Lib.hid (Box.by_ K2.out G (by omega))
  have K3 := Lib.hid (Box.by_ K3.out G (by omega))
  have K4 := Lib.hid (Box.by_ K4.out G (by omega))
  have HC := Lib.hid C
  clear C G
  go_wp2_with fail
  refine (card_ (w.heap.size + 1 + 1 + 1) p n c l 2 _ (by omega) hm HC.out).mono ?_
  rintro e w1 ⟨x, rfl, hx, C, G⟩
  have HX := Lib.hid hx
  have HB := Lib.hid (Below.grown HB.out G HB.out.size (fun k hk => by injection hk with hk; omega))
  have K2 := Lib.hid ((Box.by_ K2.out G (by omega)).alloc x.obj)
  have K3 := Lib.hid ((Box.by_ K3.out G (by omega)).alloc x.obj)
  have K4 := Lib.hid ((Box.by_ K4.out G (by omega)).alloc x.obj)
  have HC := Lib.hid (C.alloc x.obj)
  have K7 := Lib.hid (Box.new w1 x)
  have HB := Lib.hid (Below.alloc HB.out HB.out.size x.obj)
  have L7 := Lib.hid C.lt
  clear hx C G
  go_upto_region 4 with fail
  obtain ⟨q7, hq7⟩ : ∃ q, w1.heap.size = q := ⟨_, rfl⟩
  generalize w1.alloc x.obj = w2 at *
  rw [hq7] at K7 L7 ⊢
  clear hq7
  obtain ⟨c0, c1, c2, c3⟩ := K7.out.cell
  go_wp2_with fail
  refine (near_ x (w.heap.size + 1 + 1 + 1) p n c l 10 _ (by omega) hm HX.out HC.out).mono ?_
  rintro e w1 ⟨y, rfl, hy, C, G⟩
  have HY := Lib.hid hy
  have HB := Lib.hid (Below.alloc (Below.grown HB.out G HB.out.size (fun k hk => by injection hk with hk; omega)) (Nat.le_trans HB.out.size G.size) y.obj)
  have K2 := Lib.hid ((Box.by_ K2.out G (by omega)).alloc y.obj)
  have K3 := Lib.hid ((Box.by_ K3.out G (by omega)).alloc y.obj)
  have K4 := Lib.hid ((Box.by_ K4.out G (by omega)).alloc y.obj)
  have K7' := Box.by_ K7.out G (by have := L7.out; omega)
  have L8 : Hid (w.heap.size + 1 + 1 + 1 < w1.heap.size ∧ q7 < w1.heap.size) := Lib.hid ⟨C.lt, K7'.lt⟩
  have K7 := Lib.hid (K7'.alloc y.obj)
  have HC := Lib.hid (C.alloc y.obj)
  have K8 := Lib.hid (Box.new w1 y)
  clear hy C G K7' c0 c1 c2 c3
  go_upto_region 5 with fail
  obtain ⟨q8, hq8⟩ : ∃ q, w1.heap.size = q := ⟨_, rfl⟩
  generalize w1.alloc y.obj = w2 at *
  rw [hq8] at K8 L8 ⊢
  clear hq8
  obtain ⟨c0, c1, c2, c3⟩ := K7.out.cell
  obtain ⟨b0, b1, b2, b3⟩ := K8.out.cell
  go_cut [28] (fun s28 wx => ∃ t : Bool, s28 = .bool t ∧ Hid (t = true → x.ok = true ∧ y.ok = true) ∧ Hid (Cur wx (w.heap.size + 1 + 1 + 1) p n c l 22) ∧ Hid (Below w.heap.size w wx) ∧ Hid (Box wx w.heap.size zero) ∧ Hid (Box wx (w.heap.size + 1) zero) ∧ Hid (Box wx (w.heap.size + 1 + 1) zero) ∧ Hid (Box wx q7 x) ∧ Hid (Box wx q8 y))
  case first =>
    cases o
    · go_wp2_with fail
      refine (l2_card x _).mono ?_
      rintro e w2 ⟨rfl, b⟩
      have HC := Lib.hid (HC.out.below b); have HB := Lib.hid (chain0 HB.out b); have K2 := Lib.hid (Box.below K2.out b); have K3 := Lib.hid (Box.below K3.out b); have K4 := Lib.hid (Box.below K4.out b); have K7 := Lib.hid (Box.below K7.out b); have K8 := Lib.hid (Box.below K8.out b); clear b c0 c1 c2 c3 b0 b1 b2 b3; obtain ⟨c0, c1, c2, c3⟩ := K7.out.cell; obtain ⟨b0, b1, b2, b3⟩ := K8.out.cell
      cases hxo : x.ok
      · go_wp2_with fail
        go_meet
        case rel => exact ⟨_, rfl, Lib.hid (fun h => by cases h), HC, HB, K2, K3, K4, K7, K8⟩
      · have HXO := Lib.hid hxo
        go_wp2_with fail
        refine (l2_card y _).mono ?_
        rintro e w2 ⟨rfl, b⟩
        have HC := Lib.hid (HC.out.below b); have HB := Lib.hid (chain0 HB.out b); have K2 := Lib.hid (Box.below K2.out b); have K3 := Lib.hid (Box.below K3.out b); have K4 := Lib.hid (Box.below K4.out b); have K7 := Lib.hid (Box.below K7.out b); have K8 := Lib.hid (Box.below K8.out b); clear b c0 c1 c2 c3 b0 b1 b2 b3; obtain ⟨c0, c1, c2, c3⟩ := K7.out.cell; obtain ⟨b0, b1, b2, b3⟩ := K8.out.cell
        go_wp2_with fail
        go_meet
        case rel => exact ⟨_, rfl, Lib.hid (fun h => ⟨HXO.out, h⟩), HC, HB, K2, K3, K4, K7, K8⟩
    · go_wp2_with fail
      go_meet
      case rel => exact ⟨_, rfl, Lib.hid (fun h => by cases h), HC, HB, K2, K3, K4, K7, K8⟩
  case rest =>
    clear HC HB K2 K3 K4 K7 K8 c0 c1 c2 c3 b0 b1 b2 b3
    obtain ⟨t, rfl, HT, HC, HB, K2, K3, K4, K7, K8⟩ := hcut
    have D : DI w q7 q8 x y wc := ⟨⟨HB.out, K7.out, K8.out⟩, K2.out, K3.out, K4.out⟩
    have l7 := L7.out
    have l8 := L8.out
    cases t
    · clear HT
      go_upto_region 7 with fail
      refine region_S [(true, 0), (true, 1), (true, 2), (true, 3), (false, 4)] [5, 6, 7] (DZ w q7 q8 x y) (fun w' => DI w q7 q8 x y w' ∧ Cur w' (w.heap.size + 1 + 1 + 1) p n c l 22) (by kernel_rfl) (by kernel_rfl) rfl (by kernel_rfl) (fun _ h => h.1.toDZ) ⟨D.drew, HC.out.drew⟩ ?_
      refine w_card 34 (g := q7) (off := 0) rfl rfl (by kernel_rfl) _ rfl (by kernel_rfl) x (fun w' h => h.a.cell) ?_
      refine w_card 35 (g := q8) (off := 0) rfl rfl (by kernel_rfl) _ rfl (by kernel_rfl) y (fun w' h => h.b.cell) ?_
      refine w_pure 36 rfl rfl (by kernel_rfl) (v := .pointer (some ⟨w.heap.size + 1 + 1 + 1, 0, none⟩)) (fun w' => by kernel_rfl) ?_
      refine w_card 37 (g := q8) (off := 0) rfl rfl (by kernel_rfl) _ rfl (by kernel_rfl) y (fun w' h => h.b.cell) ?_
      refine s_callE 38 (fun (z : Cd) w' => wf4 z ∧ DI w q7 q8 x y w') Cd.val rfl rfl (by kernel_rfl) (f := 24) (args := #[.pointer (some ⟨w.heap.size + 1 + 1 + 1, 0, none⟩), y.val]) (fun w' => by kernel_rfl) (fun _ _ h => h.2.toDZ) (fun w' h => ?_) (fun z w' h => ?_)
      · refine (near_ y (w.heap.size + 1 + 1 + 1) p n c l 22 _ (by omega) hm HY.out h.2).mono ?_
        rintro e w2 ⟨z, rfl, hz, C, G⟩
        exact ⟨z, rfl, hz, h.1.set G (by omega) (by omega) (by omega)⟩
      · intro w2 h2
        refine end_cards [(5, w.heap.size, x), (6, w.heap.size + 1, y), (7, w.heap.size + 1 + 1, z)] (DZ w q7 q8 x y) (fun _ h => h) ?_ ?_ ?_ ?_ (by simp) h2.2.toDZ ?_ ?_
        · intro t ht; simp only [List.mem_cons, List.not_mem_nil, or_false] at ht; rcases ht with rfl | rfl | rfl <;> (intro v v' h G; simp only at G; exact h.set G (by omega) (by omega) (by omega))
        · intro t ht; simp only [List.mem_cons, List.not_mem_nil, or_false] at ht; rcases ht with rfl | rfl | rfl <;> exact ⟨_, _, _, rfl, rfl, rfl, rfl, by kernel_rfl, by kernel_rfl⟩
        · intro t ht u hu; simp only [List.mem_cons, List.not_mem_nil, or_false] at ht hu; rcases ht with rfl | rfl | rfl <;> rcases hu with rfl | rfl | rfl <;> simp
        · intro t ht u hu; simp only [List.mem_cons, List.not_mem_nil, or_false] at ht hu; rcases ht with rfl | rfl | rfl <;> rcases hu with rfl | rfl | rfl <;> first | (intro h; exact absurd rfl h) | (intro _; simp only; omega)
        · intro t ht; simp only [List.mem_cons, List.not_mem_nil, or_false] at ht; rcases ht with rfl | rfl | rfl
          · exact ⟨_, h2.2.k2⟩
          · exact ⟨_, h2.2.k3⟩
          · exact ⟨_, h2.2.k4⟩
        · intro w3 h3 hb
          have k2 := hb _ (List.mem_cons_self ..)
          have k3 := hb _ (List.mem_cons_of_mem _ (List.mem_cons_self ..))
          have k4 := hb _ (List.mem_cons_of_mem _ (List.mem_cons_of_mem _ (List.mem_cons_self ..)))
          have hz := h2.1
          have h4 := h3.below
          clear hb h h2 h3
          go_wp2_with fail
          try simp only [Exit.inBlock, Exit.then]
          refine bodyPost_ret (res_222 Try.results8 rfl rfl rfl k2 k3 k4) rfl ?_
          exact ⟨x, y, z, rfl, HX.out, HY.out, hz, h4⟩
    · have HXO := Lib.hid (HT.out rfl).1
      have HYO := Lib.hid (HT.out rfl).2
      clear HT
      go_upto_region 6 with fail
      refine region_S [(true, 0), (true, 1), (true, 2), (true, 3), (false, 4)] [5, 6, 7] (DZ w q7 q8 x y) (DI w q7 q8 x y) (by kernel_rfl) (by kernel_rfl) rfl (by kernel_rfl) (fun _ h => h.toDZ) D.drew ?_
      refine w_card 29 (g := q7) (off := 0) rfl rfl (by kernel_rfl) _ rfl (by kernel_rfl) x (fun w' h => h.a.cell) ?_
      refine w_card 30 (g := q8) (off := 0) rfl rfl (by kernel_rfl) _ rfl (by kernel_rfl) y (fun w' h => h.b.cell) ?_
      refine w_card 31 (g := q7) (off := 0) rfl rfl (by kernel_rfl) _ rfl (by kernel_rfl) x (fun w' h => h.a.cell) ?_
      refine w_card 32 (g := q8) (off := 0) rfl rfl (by kernel_rfl) _ rfl (by kernel_rfl) y (fun w' h => h.b.cell) ?_
      refine s_call 33 (I' := DI w q7 q8 x y) (v := (third x y).val) rfl rfl (by kernel_rfl) (f := 28) (args := #[x.val, y.val]) (fun w' => by kernel_rfl) (fun _ h => h.toDZ) (fun w' h => ?_) ?_
      · refine (l2_third x y w' HXO.out HYO.out).mono ?_
        rintro e w2 ⟨rfl, b⟩
        exact ⟨rfl, h.step b⟩
      · intro w2 h2
        refine end_cards [(5, w.heap.size, x), (6, w.heap.size + 1, y), (7, w.heap.size + 1 + 1, third x y)] (DZ w q7 q8 x y) (fun _ h => h) ?_ ?_ ?_ ?_ (by simp) h2.toDZ ?_ ?_
        · intro t ht; simp only [List.mem_cons, List.not_mem_nil, or_false] at ht; rcases ht with rfl | rfl | rfl <;> (intro v v' h G; simp only at G; exact h.set G (by omega) (by omega) (by omega))
        · intro t ht; simp only [List.mem_cons, List.not_mem_nil, or_false] at ht; rcases ht with rfl | rfl | rfl <;> exact ⟨_, _, _, rfl, rfl, rfl, rfl, by kernel_rfl, by kernel_rfl⟩
        · intro t ht u hu; simp only [List.mem_cons, List.not_mem_nil, or_false] at ht hu; rcases ht with rfl | rfl | rfl <;> rcases hu with rfl | rfl | rfl <;> simp
        · intro t ht u hu; simp only [List.mem_cons, List.not_mem_nil, or_false] at ht hu; rcases ht with rfl | rfl | rfl <;> rcases hu with rfl | rfl | rfl <;> first | (intro h; exact absurd rfl h) | (intro _; simp only; omega)
        · intro t ht; simp only [List.mem_cons, List.not_mem_nil, or_false] at ht; rcases ht with rfl | rfl | rfl
          · exact ⟨_, h2.k2⟩
          · exact ⟨_, h2.k3⟩
          · exact ⟨_, h2.k4⟩
        · intro w3 h3 hb
          have k2 := hb _ (List.mem_cons_self ..)
          have k3 := hb _ (List.mem_cons_of_mem _ (List.mem_cons_self ..))
          have k4 := hb _ (List.mem_cons_of_mem _ (List.mem_cons_of_mem _ (List.mem_cons_self ..)))
          have h4 := h3.below
          clear hb h2 h3
          go_wp2_with fail
          try simp only [Exit.inBlock, Exit.then]
          refine bodyPost_ret (res_222 Try.results8 rfl rfl rfl k2 k3 k4) rfl ?_
          exact ⟨x, y, third x y, rfl, HX.out, HY.out, wf4_ok (third_ok x y), h4⟩
end Go.Proofs.Ytkmkochganknmaa.draw
