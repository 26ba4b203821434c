/- The nine cards of a square: the program's squareOf. -/
import Derived.Test.YtdhcdogmbclhaaaYa
import Derived.Test.YtdhcdogmbclhaaaOj
namespace Go.Proofs.Ytdhcdogmbclhaaa.planes
open Go.RowKit
open cards reg
set_option linter.unusedVariables false

section
variable {ops : Array Oper} {S : World → Prop} {n0 : Nat} {ob0 ob1 : Obj} {fin : Act → (World → Prop) → Prop}
theorem clo2_BI (W : World) (ob0 ob1 : Obj) : Clo2 W.heap.size ob0 ob1 (BI W) (BI W) := ⟨fun _ h => h, fun _ h => Below.size h, fun _ h => Below.alloc h (Below.size h) _, fun _ h => Below.alloc h (Below.size h) _⟩
theorem t_card (d : Tmp) {i : Nat} {r : List (Bool × Nat)} {a : Act} {I : World → Prop} {o : Oper} (ho : ops[i]? = some o) (hd : o.dst = some d) (hg : o.guard = none)
    (x : Operand) (hx : o.op = .load 33 x) {g off : Nat} (hp : a.eval x = .pointer (some ⟨g, off, none⟩)) (c : Cd)
    (hS : ∀ w, S w → w.cell? ⟨g, off, none⟩ = some (.int .i64 c.a) ∧ w.cell? ⟨g, off + 1, none⟩ = some (.int .i64 c.b) ∧ w.cell? ⟨g, off + 2, none⟩ = some (.int .i64 c.c) ∧ w.cell? ⟨g, off + 3, none⟩ = some (.int .i64 c.d))
    (hr : chainT Try.prog ops S n0 ob0 ob1 fin r (a.put (some d) c.val) I) : chainT Try.prog ops S n0 ob0 ob1 fin ((true, i) :: r) a I :=
  ⟨o, c.val, ho, yieldsIf_load_mid (wanted_of hg) 33 x hx g off hp c.cells _ (fun w hw j v hv => by
    obtain ⟨h0, h1, h2, h3⟩ := hS w hw
    match j, hv with
    | 0, hv => simp [Cd.cells] at hv; rw [← hv]; exact h0
    | 1, hv => simp [Cd.cells] at hv; rw [← hv]; exact h1
    | 2, hv => simp [Cd.cells] at hv; rw [← hv]; exact h2
    | 3, hv => simp [Cd.cells] at hv; rw [← hv]; exact h3
    | n + 4, hv => simp [Cd.cells] at hv) Try.underlying33 rfl (by kernel_rfl), hd ▸ hr⟩
theorem t_call (d : Tmp) {i : Nat} {r : List (Bool × Nat)} {a : Act} {W : World} {f : FuncId} {args : Array Value} {v : Value} {o : Oper} (ho : ops[i]? = some o) (hd : o.dst = some d) (hg : o.guard = none)
    (he : ∀ w, (execOp a.eval o).run Try.prog w = .ok (.enter f args) w) (h : ∀ w, BI W w → Calls Try.prog f args w (fun e w' => e = .returned v ∧ Below w.heap.size w w'))
    (hr : chainT Try.prog ops (BI W) W.heap.size ob0 ob1 fin r (a.put (some d) v) (BI W)) : chainT Try.prog ops (BI W) W.heap.size ob0 ob1 fin ((false, i) :: r) a (BI W) :=
  ⟨o, ho, hg, fun w hI => by
    rw [he]
    exact (h w hI).mono fun e w' ⟨h1, h2⟩ => ⟨v, h1, h2, BI W, clo2_BI W ob0 ob1, BI.next hI h2, hd ▸ hr⟩⟩
end
theorem exec_storeV {T : TypeId} {cs cs2 : Array Value} {w : World} {g : Nat} (h : VB w g T cs) (hi : ((Try.prog).info? T).map (·.size) = some cs.size) (hs : cs2.size = cs.size) (h1 : cs2.all (·.oneCell') = true) {a : Act} {o : Oper} {p q : Operand} (ho : o.op = .store T p q)
    (hp : a.eval p = .pointer (some ⟨g, 0, none⟩)) (hq : a.eval q = .agg cs2) : (execOp a.eval o).run Try.prog w = .ok .skip (w.setCells g 0 cs2.toList) := by
  have hr := run_storeAt_mid (P := Try.prog) w g 0 T cs2 (by rw [hs]; exact h.there) (by rw [hs]; exact hi) h1
  unfold execOp
  rw [ho]
  simp only [hp, hq]
  simp [hr, Result.andThen]
abbrev cv (x : Cd) : Array Value := #[.int .i64 x.a, .int .i64 x.b, .int .i64 x.c, .int .i64 x.d]
theorem cv_one (x : Cd) : (cv x).all (·.oneCell') = true := by simp [Value.oneCell']
theorem box_sets {w : World} {g : Nat} {x y : Cd} (h : Box w g x) : Box (w.setCells g 0 (cv y).toList) g y := VB.stored (T := 33) (cs := cv x) (cs2 := cv y) h rfl
theorem box_past {w : World} {g k : Nat} {x : Cd} (h : Box w k x) (vs : List Value) (hk : k ≠ g) : Box (w.setCells g 0 vs) k x := off_box h (grown_setsV g vs 0 w) hk
/-- Nine cards as an array. -/
abbrev av (l : List Cd) : Array Value := (flat l).toArray
theorem flat_all : ∀ (l : List Cd), ∀ v ∈ flat l, v.oneCell' = true := by
  intro l v hv
  simp only [flat, List.mem_flatMap] at hv
  obtain ⟨x, _, hx⟩ := hv
  simp [Cd.cells] at hx
  rcases hx with rfl | rfl | rfl | rfl <;> rfl
theorem av_one (l : List Cd) : (av l).all (·.oneCell') = true := all_oneCell_toArray (flat_all l)
theorem av_size (l : List Cd) : (av l).size = 4 * l.length := by simp [flat_len]
theorem av_info : ((Try.prog).info? 37).map (·.size) = some 36 := by kernel_rfl
abbrev z36 : Array Value := #[.int .i64 0, .int .i64 0, .int .i64 0, .int .i64 0, .int .i64 0, .int .i64 0, .int .i64 0, .int .i64 0, .int .i64 0, .int .i64 0, .int .i64 0, .int .i64 0, .int .i64 0, .int .i64 0, .int .i64 0, .int .i64 0, .int .i64 0, .int .i64 0, .int .i64 0, .int .i64 0, .int .i64 0, .int .i64 0, .int .i64 0, .int .i64 0, .int .i64 0, .int .i64 0, .int .i64 0, .int .i64 0, .int .i64 0, .int .i64 0, .int .i64 0, .int .i64 0, .int .i64 0, .int .i64 0, .int .i64 0, .int .i64 0]
theorem z36_info : ((Try.prog).info? 37).map (·.size) = some z36.size := by kernel_rfl
theorem av_info9 {l : List Cd} (h : l.length = 9) : ((Try.prog).info? 37).map (·.size) = some (av l).size := by rw [av_size, h]; exact av_info

set_option maxRecDepth 100000 in
set_option maxHeartbeats 8000000 in
theorem square_of (a b c : Cd) (w : World) (ha : a.ok = true) (hb : b.ok = true) (hc : c.ok = true) :
    Calls Try.prog 57 #[a.val, b.val, c.val] w fun e w' => e = .returned (.agg (av (sq a b c))) ∧ Below w.heap.size w w' := by
  have HQ := Lib.hid (sq_are ha hb hc)
  have H1 := Lib.hid (fun w => third_of a b w ha hb)
  have H2 := Lib.hid (fun w => third_of a c w ha hc)
  have HC := Lib.hid hc
  have HBo := Lib.hid hb
  have HAo := Lib.hid ha
  obtain ⟨r, hr⟩ : ∃ r, third a b = r := ⟨_, rfl⟩
  obtain ⟨s, hs⟩ : ∃ s, third a c = s := ⟨_, rfl⟩
  have HRo := Lib.hid (show r.ok = true by rw [← hr]; exact third_ok _ _)
  have HSo := Lib.hid (show s.ok = true by rw [← hs]; exact third_ok _ _)
  rw [hr] at H1 HQ
  rw [hs] at H2 HQ
  have H3 := Lib.hid (fun w => third_of r s w HRo.out HSo.out)
  obtain ⟨m, hm⟩ : ∃ m, third r s = m := ⟨_, rfl⟩
  have HMo := Lib.hid (show m.ok = true by rw [← hm]; exact third_ok _ _)
  rw [hm] at H3 HQ
  have H4 := Lib.hid (fun w => third_of c m w HC.out HMo.out)
  have H5 := Lib.hid (fun w => third_of b m w HBo.out HMo.out)
  have H6 := Lib.hid (fun w => third_of a m w HAo.out HMo.out)
  obtain ⟨q4, hq4⟩ : ∃ x, third c m = x := ⟨_, rfl⟩
  obtain ⟨q5, hq5⟩ : ∃ x, third b m = x := ⟨_, rfl⟩
  obtain ⟨q6, hq6⟩ : ∃ x, third a m = x := ⟨_, rfl⟩
  rw [hq4] at H4 HQ
  rw [hq5] at H5 HQ
  rw [hq6] at H6 HQ
  clear hr hs hm hq4 hq5 hq6 ha hb hc
  have K0 : Hid (Box ((((w.alloc a.obj).alloc b.obj).alloc c.obj).alloc (.cells z36 37)) (w.heap.size) a) := Lib.hid ((((Box.newAt rfl rfl).alloc _).alloc _).alloc _)
  have K1 : Hid (Box ((((w.alloc a.obj).alloc b.obj).alloc c.obj).alloc (.cells z36 37)) (w.heap.size + 1) b) := Lib.hid (((Box.newAt (by simp) rfl).alloc _).alloc _)
  have K2 : Hid (Box ((((w.alloc a.obj).alloc b.obj).alloc c.obj).alloc (.cells z36 37)) (w.heap.size + 1 + 1) c) := Lib.hid ((Box.newAt (by simp) rfl).alloc _)
  have K6 : Hid (VB ((((w.alloc a.obj).alloc b.obj).alloc c.obj).alloc (.cells z36 37)) (w.heap.size + 1 + 1 + 1) 37 z36) := Lib.hid (VB.newAt (by simp) rfl)
  have HB : Hid (Below w.heap.size w ((((w.alloc a.obj).alloc b.obj).alloc c.obj).alloc (.cells z36 37))) := Lib.hid (((((Below.refl _ _).alloc (Nat.le_refl _) _).alloc (by simp) _).alloc (by simp; omega) _).alloc (by simp; omega) _)
  go_enter Try.func57, Try.ntmps57
  go_upto_region 1 with fail
  have hz0 := K0.out.lt
  have hz1 := K1.out.lt
  have hz2 := K2.out.lt
  have hz6 := K6.out.lt
  obtain ⟨g0, hg0⟩ : ∃ g, w.heap.size = g := ⟨_, rfl⟩
  obtain ⟨g1, hg1⟩ : ∃ g, w.heap.size + 1 = g := ⟨_, rfl⟩
  obtain ⟨g2, hg2⟩ : ∃ g, w.heap.size + 1 + 1 = g := ⟨_, rfl⟩
  obtain ⟨g6, hg6⟩ : ∃ g, w.heap.size + 1 + 1 + 1 = g := ⟨_, rfl⟩
  have HG := Lib.hid (show w.heap.size = g0 ∧ g1 = g0 + 1 ∧ g2 = g0 + 2 ∧ g6 = g0 + 3 by omega)
  rw [hg6] at K6 hz6
  rw [hg2] at K2 hz2
  rw [hg1] at K1 hz1
  rw [hg0] at K0 hz0 HB
  try rw [hg6]
  try rw [hg2]
  try rw [hg1]
  try rw [hg0]
  clear hg0 hg1 hg2 hg6
  generalize (((w.alloc a.obj).alloc b.obj).alloc c.obj).alloc (.cells z36 37) = W at *
  refine region_two [(true, 0), (true, 1), (true, 3), (true, 4), (false, 2), (false, 5)] 6 7 7 8 [8, 9] _ _ zero.obj zero.obj W.heap.size (BI W) (BI W) (by kernel_rfl) (by kernel_rfl) rfl (by kernel_rfl) (by decide) rfl rfl rfl (fun a w => by kernel_rfl) rfl rfl rfl (fun a w => by kernel_rfl) (clo2_BI W _ _) (BI.start W) ?_
  refine t_card 10 (g := g0) (off := 0) rfl rfl rfl _ rfl (by kernel_rfl) a (fun w' h => (K0.out.below h).cell) ?_
  refine t_card 11 (g := g1) (off := 0) rfl rfl rfl _ rfl (by kernel_rfl) b (fun w' h => (K1.out.below h).cell) ?_
  refine t_card 13 (g := g0) (off := 0) rfl rfl rfl _ rfl (by kernel_rfl) a (fun w' h => (K0.out.below h).cell) ?_
  refine t_card 14 (g := g2) (off := 0) rfl rfl rfl _ rfl (by kernel_rfl) c (fun w' h => (K2.out.below h).cell) ?_
  refine t_call 12 rfl rfl rfl (fun w => by kernel_rfl) (fun w0 h0 => H1.out w0) ?_
  refine t_call 15 rfl rfl rfl (fun w => by kernel_rfl) (fun w0 h0 => H2.out w0) ?_
  intro w4 g7 g8 hI n7 n8 hne b7 b8
  have B7 : Box w4 g7 zero := b7
  have B8 : Box w4 g8 zero := b8
  have B7' : Box (w4.setCells g7 0 (cv r).toList) g7 r := box_sets B7
  have B8' : Box (w4.setCells g7 0 (cv r).toList) g8 zero := box_past B8 _ (Ne.symm hne)
  have hS1 : BI W (w4.setCells g7 0 (cv r).toList) := Below.grown hI (grown_setsV g7 _ _ _) (Below.size hI) (fun k hk => by injection hk with hk; omega)
  have hS2 : BI W ((w4.setCells g7 0 (cv r).toList).setCells g8 0 (cv s).toList) := Below.grown hS1 (grown_setsV g8 _ _ _) (Below.size hS1) (fun k hk => by injection hk with hk; omega)
  refine ⟨_, _, undef, rfl, rfl, .inr ⟨exec_storeV (T := 33) (cs := cv zero) (cs2 := cv r) B7 (by kernel_rfl) rfl (cv_one r) rfl (by kernel_rfl) (by kernel_rfl), rfl⟩, hS1, ?_⟩
  refine ⟨_, _, undef, rfl, rfl, .inr ⟨exec_storeV (T := 33) (cs := cv zero) (cs2 := cv s) B8' (by kernel_rfl) rfl (cv_one s) rfl (by kernel_rfl) (by kernel_rfl), rfl⟩, hS2, ?_⟩
  have K7 : Hid (Box ((w4.setCells g7 0 (cv r).toList).setCells g8 0 (cv s).toList) g7 r) := Lib.hid (box_past B7' _ hne)
  have K8 : Hid (Box ((w4.setCells g7 0 (cv r).toList).setCells g8 0 (cv s).toList) g8 s) := Lib.hid (box_sets B8')
  have K0 := Lib.hid (K0.out.below hS2)
  have K1 := Lib.hid (K1.out.below hS2)
  have K2 := Lib.hid (K2.out.below hS2)
  have K6 := Lib.hid (K6.out.below hS2)
  have HB2 : Hid (Below g0 w ((w4.setCells g7 0 (cv r).toList).setCells g8 0 (cv s).toList)) := Lib.hid (HB.out.trans (Below.mono hS2 (by have := HB.out.size; have := HG.out.1; omega)))
  have HN := Lib.hid (show g6 < g7 ∧ g6 < g8 by omega)
  clear hI b7 b8 B7 B8 B7' B8' hS1 hS2 HB
  show Exit.then _ _ _ _ _
  generalize (w4.setCells g7 0 (cv r).toList).setCells g8 0 (cv s).toList = w5 at *
  simp only [Act.put, List.setIfInBounds_toArray, List.set_cons_zero, List.set_cons_succ]
  unfold ptr
  obtain ⟨k7a, k7b, k7c, k7d⟩ := K7.out.cell
  obtain ⟨k8a, k8b, k8c, k8d⟩ := K8.out.cell
  go_wp2_with fail
  refine (H3.out _).mono ?_
  rintro e w6 ⟨rfl, b6⟩
  have h67 : g6 < w6.heap.size := Nat.lt_of_lt_of_le K6.out.lt b6.size
  have K9 : Hid (Box (w6.alloc m.obj) w6.heap.size m) := Lib.hid (Box.newAt rfl rfl)
  have K0 := Lib.hid ((K0.out.below b6).alloc m.obj)
  have K1 := Lib.hid ((K1.out.below b6).alloc m.obj)
  have K2 := Lib.hid ((K2.out.below b6).alloc m.obj)
  have K6 := Lib.hid ((K6.out.below b6).alloc m.obj)
  have K7 := Lib.hid ((K7.out.below b6).alloc m.obj)
  have K8 := Lib.hid ((K8.out.below b6).alloc m.obj)
  have HB : Hid (Below g0 w (w6.alloc m.obj)) := Lib.hid ((HB2.out.trans (b6.mono (by have := HB2.out.size; have := HG.out.1; omega))).alloc (by have := HB2.out.size; have := HG.out.1; have := b6.size; omega) _)
  clear b6 HB2 k7a k7b k7c k7d k8a k8b k8c k8d
  go_upto_region 3 with fail
  obtain ⟨g9, hg9⟩ : ∃ g, w6.heap.size = g := ⟨_, rfl⟩
  rw [hg9] at K9 h67
  try rw [hg9]
  clear hg9
  generalize w6.alloc m.obj = W7 at *
  have HG' := HG.out
  have HN' := HN.out
  refine region_storeG g6 [(true, 0), (true, 1), (true, 2), (true, 3), (true, 4), (true, 5), (true, 6), (true, 8), (true, 9), (true, 10), (true, 12), (true, 13), (false, 7), (false, 11), (false, 14), (true, 15)] 16 _ (by kernel_rfl) rfl (by kernel_rfl) rfl rfl rfl ?_
  refine chain_card 19 (g := g0) (off := 0) rfl rfl rfl _ rfl (by kernel_rfl) a (fun w' h => (GS.box h K0.out (by omega)).cell) ?_
  refine chain_card 20 (g := g1) (off := 0) rfl rfl rfl _ rfl (by kernel_rfl) b (fun w' h => (GS.box h K1.out (by omega)).cell) ?_
  refine chain_card 21 (g := g7) (off := 0) rfl rfl rfl _ rfl (by kernel_rfl) r (fun w' h => (GS.box h K7.out (by omega)).cell) ?_
  refine chain_card 22 (g := g2) (off := 0) rfl rfl rfl _ rfl (by kernel_rfl) c (fun w' h => (GS.box h K2.out (by omega)).cell) ?_
  refine chain_card 23 (g := g9) (off := 0) rfl rfl rfl _ rfl (by kernel_rfl) m (fun w' h => (GS.box h K9.out (by omega)).cell) ?_
  refine chain_card 24 (g := g2) (off := 0) rfl rfl rfl _ rfl (by kernel_rfl) c (fun w' h => (GS.box h K2.out (by omega)).cell) ?_
  refine chain_card 25 (g := g9) (off := 0) rfl rfl rfl _ rfl (by kernel_rfl) m (fun w' h => (GS.box h K9.out (by omega)).cell) ?_
  refine chain_card 27 (g := g8) (off := 0) rfl rfl rfl _ rfl (by kernel_rfl) s (fun w' h => (GS.box h K8.out (by omega)).cell) ?_
  refine chain_card 28 (g := g1) (off := 0) rfl rfl rfl _ rfl (by kernel_rfl) b (fun w' h => (GS.box h K1.out (by omega)).cell) ?_
  refine chain_card 29 (g := g9) (off := 0) rfl rfl rfl _ rfl (by kernel_rfl) m (fun w' h => (GS.box h K9.out (by omega)).cell) ?_
  refine chain_card 31 (g := g0) (off := 0) rfl rfl rfl _ rfl (by kernel_rfl) a (fun w' h => (GS.box h K0.out (by omega)).cell) ?_
  refine chain_card 32 (g := g9) (off := 0) rfl rfl rfl _ rfl (by kernel_rfl) m (fun w' h => (GS.box h K9.out (by omega)).cell) ?_
  refine chain_callG 26 rfl rfl rfl (fun w => by kernel_rfl) (fun w h => H4.out w) ?_
  refine chain_callG 30 rfl rfl rfl (fun w => by kernel_rfl) (fun w h => H5.out w) ?_
  refine chain_callG 33 rfl rfl rfl (fun w => by kernel_rfl) (fun w h => H6.out w) ?_
  refine chain_pure 34 (v := .agg (av [a, b, r, c, m, q4, s, q5, q6])) rfl rfl rfl (fun w => by kernel_rfl) ?_
  intro w8 b8
  have hz8 := K6.out.below b8
  have hS : GS W7 g6 (w8.setCells g6 0 (av [a, b, r, c, m, q4, s, q5, q6]).toList) := World.grownBy.trans (BI.gs g6 b8) (grown_setsV g6 _ _ _)
  have hsz : (av [a, b, r, c, m, q4, s, q5, q6]).size = z36.size := by kernel_rfl
  refine ⟨_, exec_storeV (T := 37) (cs := z36) (cs2 := av [a, b, r, c, m, q4, s, q5, q6]) hz8 z36_info hsz (av_one _) rfl (by kernel_rfl) (by kernel_rfl), hS, ?_⟩
  have KF : Hid (VB (w8.setCells g6 0 (av [a, b, r, c, m, q4, s, q5, q6]).toList) g6 37 (av [a, b, r, c, m, q4, s, q5, q6])) := Lib.hid (VB.stored hz8 hsz)
  have HBF : Hid (Below g0 w (w8.setCells g6 0 (av [a, b, r, c, m, q4, s, q5, q6]).toList)) := Lib.hid (HB.out.grown hS (by have := HB.out.size; have := HG.out.1; omega) (fun k hk => by injection hk with hk; omega))
  clear hz8 hS b8 K0 K1 K2 K6 K7 K8 K9
  show Exit.then _ _ _ _ _
  generalize w8.setCells g6 0 (av [a, b, r, c, m, q4, s, q5, q6]).toList = w9 at *
  simp only [Act.put, List.setIfInBounds_toArray, List.set_cons_zero, List.set_cons_succ]
  rw [HQ.out] at KF
  go_wp2_with fail
  try simp only [Exit.inBlock, Exit.then]
  refine bodyPost_ret (res_vb Try.results57 rfl KF.out Try.underlying37 (av_info9 (sq_len a b c))) rfl ?_
  exact ⟨rfl, by rw [HG.out.1]; exact HBF.out⟩
end Go.Proofs.Ytdhcdogmbclhaaa.planes
