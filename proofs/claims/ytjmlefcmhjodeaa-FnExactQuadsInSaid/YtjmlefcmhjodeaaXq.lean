/- thirdAt; maps from cards to lists of pairs. -/
import Derived.Test.YtjmlefcmhjodeaaXp
import Derived.Test.YtjmlefcmhjodeaaMp
import Derived.WideKeyEntry
namespace Go.Proofs.Ytjmlefcmhjodeaa.others
open Go.RowKit
open Go.Maps (Keyed)
open cards reg
set_option linter.unusedVariables false

theorem exec_index2 {N : Nat} (hN : N < 2) {a : Act} {o : Oper} {p q : Operand} (ho : o.op = .indexAddr 79 p q) {g : Nat} (hp : a.eval p = .pointer (some ⟨g, 0, none⟩)) (hq : a.eval q = .int .i64 N) (w : World) :
    (execOp a.eval o).run Try.prog w = .ok (.value (.pointer (some ⟨g, N, none⟩))) w := by
  have h0 : (0 : Int) ≤ (N : Int) := by omega
  have h1 : (N : Int) < 2 := by omega
  unfold execOp
  rw [ho]
  simp only [hp, hq]
  go_simp
abbrev cvx (x : Cd) : Array Value := #[.int .i64 x.a, .int .i64 x.b, .int .i64 x.c, .int .i64 x.d]
theorem cvx_one (x : Cd) : (cvx x).all (·.oneCell') = true := by simp [Value.oneCell']
theorem cvx_info : ((Try.prog).info? 25).map (·.size) = some 4 := by kernel_rfl
theorem exec_storeC {w : World} {g : Nat} {x : Cd} (h : Box w g x) (y : Cd) {a : Act} {o : Oper} {p q : Operand} (ho : o.op = .store 25 p q)
    (hp : a.eval p = .pointer (some ⟨g, 0, none⟩)) (hq : a.eval q = y.val) : (execOp a.eval o).run Try.prog w = .ok .skip (w.setCells g 0 (cvx y).toList) := by
  have hr := run_storeAt_mid (P := Try.prog) w g 0 25 (cvx y) (VB.there (T := 25) (cs := cvx x) h) cvx_info (cvx_one y)
  unfold execOp
  rw [ho]
  simp only [hp, hq]
  simp [hr, Result.andThen]
theorem box_stored {w : World} {g : Nat} {x y : Cd} (h : Box w g x) : Box (w.setCells g 0 (cvx y).toList) g y := VB.stored (T := 25) (cs := cvx x) (cs2 := cvx y) h rfl

set_option maxRecDepth 100000 in
set_option maxHeartbeats 4000000 in
theorem third_at (l : List Cd) (p : Option Addr) (n cp : Nat) (i j : Nat) (w : World) (hn : l.length = n) (hr : Rd w p (flat l)) (hok : l.all Cd.ok = true) (hi : i < n) (hj : j < n) :
    Calls Try.prog 99 #[.slice p n cp, (A2.mk i j).val] w fun e w' => e = .returned (th l ⟨i, j⟩).val ∧ Below w.heap.size w w' := by
  obtain ⟨bx, o, x, rfl, hb, hx, c0, c1, c2, c3⟩ := hr.card (k := i) (by omega)
  obtain ⟨y, hy⟩ : ∃ y, l[j]? = some y := ⟨_, List.getElem?_eq_getElem (by omega)⟩
  obtain ⟨d0, d1, d2, d3⟩ := hr.at_ hy
  rw [th_at hx hy]
  have HT := Lib.hid (fun w => third_of x y w (ok_at hok hx) (ok_at hok hy))
  have hto := third_ok x y
  generalize third x y = t at *
  have b0 : Below w.heap.size w ((w.alloc (A2.mk i j).obj).alloc zero.obj) := ((Below.refl _ _).alloc (Nat.le_refl _) _).alloc (by simp) _
  have HX : Hid (∀ w', w.grownBy w' (some (w.heap.size + 1)) → w'.cell? ⟨bx, o + i * 4, none⟩ = some (.int .i64 x.a) ∧ w'.cell? ⟨bx, o + i * 4 + 1, none⟩ = some (.int .i64 x.b) ∧ w'.cell? ⟨bx, o + i * 4 + 2, none⟩ = some (.int .i64 x.c) ∧ w'.cell? ⟨bx, o + i * 4 + 3, none⟩ = some (.int .i64 x.d)) := Lib.hid (fun w' h => ⟨GS.cell h c0 hb (by omega), GS.cell h c1 hb (by omega), GS.cell h c2 hb (by omega), GS.cell h c3 hb (by omega)⟩)
  have HY : Hid (∀ w', w.grownBy w' (some (w.heap.size + 1)) → w'.cell? ⟨bx, o + j * 4, none⟩ = some (.int .i64 y.a) ∧ w'.cell? ⟨bx, o + j * 4 + 1, none⟩ = some (.int .i64 y.b) ∧ w'.cell? ⟨bx, o + j * 4 + 2, none⟩ = some (.int .i64 y.c) ∧ w'.cell? ⟨bx, o + j * 4 + 3, none⟩ = some (.int .i64 y.d)) := Lib.hid (fun w' h => ⟨GS.cell h d0 hb (by omega), GS.cell h d1 hb (by omega), GS.cell h d2 hb (by omega), GS.cell h d3 hb (by omega)⟩)
  have K3 : Hid (VB ((w.alloc (A2.mk i j).obj).alloc zero.obj) w.heap.size 79 #[.int .i64 i, .int .i64 j]) := Lib.hid ((VB.newAt rfl rfl).alloc _)
  have K4 : Hid (Box ((w.alloc (A2.mk i j).obj).alloc zero.obj) (w.heap.size + 1) zero) := Lib.hid (Box.newAt (by simp) rfl)
  have HG : Hid (w.grownBy ((w.alloc (A2.mk i j).obj).alloc zero.obj) (some (w.heap.size + 1))) := Lib.hid ((World.grownBy_alloc _ _ _).trans (World.grownBy_alloc _ _ _))
  have HB := Lib.hid b0
  clear hr hok hx hy c0 c1 c2 c3 d0 d1 d2 d3 b0 hto
  go_enter Try.func99, Try.ntmps99
  go_upto_region 1 with fail
  generalize (w.alloc (A2.mk i j).obj).alloc zero.obj = W at *
  have k3z := K3.out.lt
  have k4z := K4.out.lt
  refine region_storeG (w.heap.size + 1) [(true, 0), (true, 1), (true, 2), (true, 3), (true, 4), (true, 5), (true, 6), (true, 7), (true, 8), (true, 9), (false, 10)] 11 _ (by kernel_rfl) rfl (by kernel_rfl) rfl rfl rfl ?_
  refine chain_pure 5 (v := .slice (some ⟨bx, o, none⟩) n cp) rfl rfl rfl (fun w => by kernel_rfl) ?_
  refine chain_pure 6 (v := .pointer (some ⟨w.heap.size, 0, none⟩)) rfl rfl rfl (exec_index2 (N := 0) (by omega) rfl (by kernel_rfl) (by kernel_rfl)) ?_
  refine chain_intS 7 rfl rfl rfl rfl (by kernel_rfl) (fun w' h => GS.cell h (VB.at_ K3.out (j := 0) rfl) k3z (by omega)) ?_
  refine chain_pure 8 (v := .pointer (some ⟨bx, o + i * 4, none⟩)) rfl rfl rfl (exec_indexS (cp := cp) hi rfl (by kernel_rfl) (by kernel_rfl)) ?_
  refine chain_card 9 rfl rfl rfl _ rfl (by kernel_rfl) x (fun w' h => HX.out w' (HG.out.trans h)) ?_
  refine chain_pure 10 (v := .slice (some ⟨bx, o, none⟩) n cp) rfl rfl rfl (fun w => by kernel_rfl) ?_
  refine chain_pure 11 (v := .pointer (some ⟨w.heap.size, 1, none⟩)) rfl rfl rfl (exec_index2 (N := 1) (by omega) rfl (by kernel_rfl) (by kernel_rfl)) ?_
  refine chain_intS 12 rfl rfl rfl rfl (by kernel_rfl) (fun w' h => GS.cell h (VB.at_ K3.out (j := 1) rfl) k3z (by omega)) ?_
  refine chain_pure 13 (v := .pointer (some ⟨bx, o + j * 4, none⟩)) rfl rfl rfl (exec_indexS (cp := cp) hj rfl (by kernel_rfl) (by kernel_rfl)) ?_
  refine chain_card 14 rfl rfl rfl _ rfl (by kernel_rfl) y (fun w' h => HY.out w' (HG.out.trans h)) ?_
  refine chain_callG 15 rfl rfl rfl (fun w => by kernel_rfl) (fun w h => HT.out w) ?_
  intro w8 b8
  have hz8 := K4.out.below b8
  refine ⟨_, exec_storeC hz8 t rfl (by kernel_rfl) (by kernel_rfl), World.grownBy.trans (BI.gs _ b8) (grown_setsV _ _ _ _), ?_⟩
  have KF := box_stored (y := t) hz8
  have HBF := HB.out.grown (World.grownBy.trans (BI.gs (w.heap.size + 1) b8) (grown_setsV (w.heap.size + 1) (cvx t).toList 0 w8)) HB.out.size (fun k hk => by injection hk with hk; omega)
  show Exit.then _ _ _ _ _
  generalize w8.setCells (w.heap.size + 1) 0 (cvx t).toList = w9 at *
  simp only [Act.put, List.setIfInBounds_toArray, List.set_cons_zero, List.set_cons_succ]
  go_wp2_with fail
  try simp only [Exit.inBlock, Exit.then]
  refine bodyPost_ret (res_vb Try.results99 rfl (show VB w9 (w.heap.size + 1) 25 (cvx t) from KF) Try.underlying25 cvx_info) rfl ?_
  exact ⟨rfl, HBF⟩
end Go.Proofs.Ytjmlefcmhjodeaa.others
