/- Merged texts: Sk, X8, X9, H1, H2, H3, X6, H4, Vz, H5, Xq, Xr, Xs, H6, Sm, Xb, H7, Gw, Hs, Pc, Dp, H8. -/
import Derived.Shelf.SlSortCmp.WholeK
import Derived.Test.YtjmlefcmhjodeaaProg
import Derived.Test.YtjmlefcmhjodeaaX7
import Derived.Test.YtjmlefcmhjodeaaSz
import Derived.Test.YtjmlefcmhjodeaaCp
import Derived.Test.YtjmlefcmhjodeaaPm
import Derived.Test.YtjmlefcmhjodeaaRx
import Derived.BigQuiet
import Derived.Deep.QuietTactic
import Derived.Deep.DeepCutAuto
import Derived.RangeFuncNested
import Derived.RangeFuncBound
import Derived.RangeFuncCalls
import Derived.RangeFuncLeaves
import Derived.Shelf.Abstract
import Derived.WalkKit
import Derived.OwnWalkIn
import Derived.TacticsInMore
import Derived.LoopNIn
import Derived.LoopIn
import Derived.RegionIn
import Derived.Maps.AppendAt
import Derived.Sort.MapsRangeIn
import Derived.Test.YtjmlefcmhjodeaaXp
import Derived.Test.YtjmlefcmhjodeaaQt
import Derived.WalkMore
import Derived.Test.YtjmlefcmhjodeaaX5
import Derived.Test.YtjmlefcmhjodeaaVy
import Derived.Test.YtjmlefcmhjodeaaVx
import Derived.Test.YtjmlefcmhjodeaaR2
import Derived.Test.YtjmlefcmhjodeaaMp
import Derived.WideKeyEntry
import Derived.Maps.Range
import Derived.Test.YtjmlefcmhjodeaaIh
import Derived.Test.YtjmlefcmhjodeaaC7
import Derived.Test.YtjmlefcmhjodeaaAv
import Derived.Lib.AppendZeros
import Derived.Test.YtjmlefcmhjodeaaLm
import Derived.Test.YtjmlefcmhjodeaaPu
import Derived.Deep.RegionHeld3
import Derived.Test.YtjmlefcmhjodeaaX4
import Derived.Test.YtjmlefcmhjodeaaLn
/- The library's sort by a comparing function, laid at this dump: the numbers of the functions and types that its contract names. -/
namespace Go.Proofs
open Go.Shelf
def Try.sortG6_ren : Go.Shelf.Ren := ⟨fun | 6 => 139 | 15 => 101 | 14 => 151 | 28 => 126 | 29 => 127 | 20 => 154 | 21 => 155 | 22 => 156 | 23 => 157 | 24 => 158 | 25 => 159 | 26 => 160 | 27 => 161 | 46 => 162 | 47 => 142 | 48 => 143 | 49 => 163 | 50 => 164 | 57 => 165 | n => n, fun | 22 => 52 | 24 => 87 | 25 => 118 | 3 => 3 | 39 => 108 | 0 => 0 | 53 => 132 | 55 => 134 | 4 => 4 | 46 => 125 | 45 => 124 | 50 => 22 | 5 => 5 | 9 => 9 | 66 => 144 | 70 => 148 | 76 => 155 | 77 => 156 | n => n, fun | n => n⟩
theorem Try.sortG6 : Go.Proofs.SlLaysF0.n6 Try.prog Try.sortG6_ren := {
  mixed := by kernel_rfl
  f6 := ⟨Try.f139.name, by decide, Try.func139.trans (congrArg some (by kernel_rfl))⟩
  f14 := ⟨Try.f151.name, by decide, Try.func151.trans (congrArg some (by kernel_rfl))⟩
  f15 := Try.func101.trans (congrArg some (by kernel_rfl))
  f20 := ⟨Try.f154.name, by decide, Try.func154.trans (congrArg some (by kernel_rfl))⟩
  f21 := ⟨Try.f155.name, by decide, Try.func155.trans (congrArg some (by kernel_rfl))⟩
  f22 := ⟨Try.f156.name, by decide, Try.func156.trans (congrArg some (by kernel_rfl))⟩
  f23 := ⟨Try.f157.name, by decide, Try.func157.trans (congrArg some (by kernel_rfl))⟩
  f24 := ⟨Try.f158.name, by decide, Try.func158.trans (congrArg some (by kernel_rfl))⟩
  f25 := ⟨Try.f159.name, by decide, Try.func159.trans (congrArg some (by kernel_rfl))⟩
  f26 := ⟨Try.f160.name, by decide, Try.func160.trans (congrArg some (by kernel_rfl))⟩
  f27 := ⟨Try.f161.name, by decide, Try.func161.trans (congrArg some (by kernel_rfl))⟩
  f28 := Try.func126.trans (congrArg some (by kernel_rfl))
  f29 := Try.func127.trans (congrArg some (by kernel_rfl))
  f46 := ⟨Try.f162.name, by decide, Try.func162.trans (congrArg some (by kernel_rfl))⟩
  f47 := Try.func142.trans (congrArg some (by kernel_rfl))
  f48 := Try.func143.trans (congrArg some (by kernel_rfl))
  f49 := ⟨Try.f163.name, by decide, Try.func163.trans (congrArg some (by kernel_rfl))⟩
  f50 := ⟨Try.f164.name, by decide, Try.func164.trans (congrArg some (by kernel_rfl))⟩
  f57 := ⟨Try.f165.name, by decide, Try.func165.trans (congrArg some (by kernel_rfl))⟩
  t0 := Try.underlying0
  a0 := Try.isAgg0
  z0 := Try.sizeOf0
  v0 := Try.zeroValue0
  t3 := Try.underlying3
  a3 := Try.isAgg3
  z3 := Try.sizeOf3
  v3 := Try.zeroValue3
  t4 := Try.underlying4
  a4 := Try.isAgg4
  z4 := Try.sizeOf4
  v4 := Try.zeroValue4
  t5 := Try.underlying5
  a5 := Try.isAgg5
  z5 := Try.sizeOf5
  v5 := Try.zeroValue5
  t9 := Try.underlying9
  a9 := Try.isAgg9
  z9 := Try.sizeOf9
  v9 := Try.zeroValue9
  t22 := Try.underlying52
  a22 := Try.isAgg52
  z22 := Try.sizeOf52
  v22 := Try.zeroValue52
  t25 := Try.underlying118
  a25 := Try.isAgg118
  z25 := Try.sizeOf118
  v25 := Try.zeroValue118
  t39 := Try.underlying108
  a39 := Try.isAgg108
  z39 := Try.sizeOf108
  v39 := Try.zeroValue108
  t45 := Try.underlying124
  a45 := Try.isAgg124
  z45 := Try.sizeOf124
  v45 := Try.zeroValue124
  t46 := Try.underlying125
  a46 := Try.isAgg125
  z46 := Try.sizeOf125
  v46 := Try.zeroValue125
  t50 := Try.underlying22
  a50 := Try.isAgg22
  z50 := Try.sizeOf22
  v50 := Try.zeroValue22
  t53 := Try.underlying132
  a53 := Try.isAgg132
  z53 := Try.sizeOf132
  v53 := Try.zeroValue132
  t55 := Try.underlying134
  a55 := Try.isAgg134
  z55 := Try.sizeOf134
  v55 := Try.zeroValue134
  t66 := Try.underlying144
  a66 := Try.isAgg144
  z66 := Try.sizeOf144
  v66 := Try.zeroValue144
  t70 := Try.underlying148
  a70 := Try.isAgg148
  z70 := Try.sizeOf148
  v70 := Try.zeroValue148
  t76 := Try.underlying155
  a76 := Try.isAgg155
  z76 := Try.sizeOf155
  v76 := Try.zeroValue155
  t77 := Try.underlying156
  a77 := Try.isAgg156
  z77 := Try.sizeOf156
  v77 := Try.zeroValue156 }
end Go.Proofs

/- Six places sorted in their array; a row of ghosts sorted by the program's comparing function. -/
namespace Go.Proofs.Ytjmlefcmhjodeaa.others
open Go.RowKit
open cards
set_option linter.unusedVariables false

theorem le_perm6 : ∀ {a b : List Int}, a.Pairwise (· ≤ ·) → b.Pairwise (· ≤ ·) → a.Perm b → a = b
  | [], b, _, _, h => (List.nil_perm.1 h).symm
  | x :: a, [], _, _, h => by have := h.length_eq; simp at this
  | x :: a, y :: b, ha, hb, h => by
    obtain ⟨ha1, ha2⟩ := List.pairwise_cons.1 ha
    obtain ⟨hb1, hb2⟩ := List.pairwise_cons.1 hb
    have h1 : x ≤ y := by
      rcases List.mem_cons.1 (h.mem_iff.2 (.head _) : y ∈ x :: a) with e | e
      · omega
      · exact ha1 y e
    have h2 : y ≤ x := by
      rcases List.mem_cons.1 (h.mem_iff.1 (.head _) : x ∈ y :: b) with e | e
      · omega
      · exact hb1 x e
    obtain rfl : x = y := by omega
    rw [le_perm6 ha2 hb2 (List.Perm.cons_inv h)]
/-- A block that holds six numbers. -/
def B6 (w : World) (g : Nat) (x : A6) : Prop := w.heap[g]? = some x.obj
theorem B6.lt {w : World} {g : Nat} {x : A6} (h : B6 w g x) : g < w.heap.size := (Array.getElem?_eq_some_iff.1 h).1
theorem B6.newAt {w : World} {g : Nat} {x : A6} {o : Obj} (h : w.heap.size = g) (ho : o = x.obj) : B6 (w.alloc o) g x := by subst h; subst ho; exact heap_alloc_new w _
theorem B6.alloc {w : World} {g : Nat} {x : A6} (h : B6 w g x) (o : Obj) : B6 (w.alloc o) g x := (Below.heap_alloc w o g h.lt).trans h
theorem B6.drew {w : World} {g : Nat} {x : A6} (h : B6 w g x) : B6 w.drew g x := h
theorem B6.drewN {w : World} {g : Nat} {x : A6} (h : B6 w g x) (n : Nat) : B6 (w.drewN n) g x := h
theorem B6.below {w w1 : World} {g : Nat} {x : A6} (h : B6 w g x) (b : Below w.heap.size w w1) : B6 w1 g x := (b.block g h.lt).trans h
theorem B6.kept {w w1 : World} {g : Nat} {x : A6} {row : Option Nat} (h : B6 w g x) (hg : w.grownBy w1 row) (hne : some g ≠ row) : B6 w1 g x := (hg.block g h.lt hne).trans h
theorem B6.cell {w : World} {g : Nat} {x : A6} (h : B6 w g x) : w.cell? ⟨g, 0, none⟩ = some (.int .i64 x.a) ∧ w.cell? ⟨g, 1, none⟩ = some (.int .i64 x.b) ∧ w.cell? ⟨g, 2, none⟩ = some (.int .i64 x.c) ∧ w.cell? ⟨g, 3, none⟩ = some (.int .i64 x.d) ∧ w.cell? ⟨g, 4, none⟩ = some (.int .i64 x.e) ∧ w.cell? ⟨g, 5, none⟩ = some (.int .i64 x.f) :=
  ⟨cell_of_row w g 0 _ _ _ h, cell_of_row w g 1 _ _ _ h, cell_of_row w g 2 _ _ _ h, cell_of_row w g 3 _ _ _ h, cell_of_row w g 4 _ _ _ h, cell_of_row w g 5 _ _ _ h⟩
theorem B6.frozen {w : World} {g : Nat} {x : A6} (h : B6 w g x) : ∀ i, w.frozen? ⟨g, i, none⟩ = false := fun i => frozen_of_row w g i _ _ h
theorem B6.holds {w : World} {g : Nat} {x : A6} (h : B6 w g x) : Go.Sort.Holds (Value.int .i64) w g 0 (f6 x).toArray := by
  intro j hj
  have hj' : j < 6 := by simpa [f6] using hj
  refine ⟨?_, h.frozen (0 + j)⟩
  rw [Nat.zero_add]
  obtain ⟨h0, h1, h2, h3, h4, h5⟩ := h.cell
  rcases (show j = 0 ∨ j = 1 ∨ j = 2 ∨ j = 3 ∨ j = 4 ∨ j = 5 by omega) with rfl | rfl | rfl | rfl | rfl | rfl
  · exact h0
  · exact h1
  · exact h2
  · exact h3
  · exact h4
  · exact h5
theorem B6.put {w : World} {g : Nat} {x : A6} (h : B6 w g x) (y : A6) (q : Nat) (os : Array Obj) :
    B6 (Go.Sort.grow (Go.Sort.putRow (Value.int .i64) (Go.Sort.ahead w q) g 0 (f6 y).toArray) os) g y ∧ w.grownBy (Go.Sort.grow (Go.Sort.putRow (Value.int .i64) (Go.Sort.ahead w q) g 0 (f6 y).toArray) os) (some g) := by
  have hh : ∀ k, (Go.Sort.putRow (Value.int .i64) (Go.Sort.ahead w q) g 0 (f6 y).toArray).heap[k]? = if g = k then (w.heap[k]?).map (Go.Sort.onCells (Go.Sort.putCells (Value.int .i64) 0 (f6 y).toArray)) else w.heap[k]? := fun k => by
    unfold Go.Sort.putRow Go.Sort.mapBlock Go.Sort.ahead
    simp only [Array.getElem?_modify]
  have hsz : (Go.Sort.putRow (Value.int .i64) (Go.Sort.ahead w q) g 0 (f6 y).toArray).heap.size = w.heap.size := by
    unfold Go.Sort.putRow Go.Sort.mapBlock Go.Sort.ahead
    simp
  have hlt := h.lt
  refine ⟨?_, ⟨rfl, rfl, rfl, ?_, fun k hk hne => ?_⟩⟩
  · unfold B6 at h ⊢
    show (_ ++ os)[g]? = _
    rw [Array.getElem?_append_left (by rw [hsz]; exact hlt), hh, if_pos rfl, h]
    rfl
  · show w.heap.size ≤ (_ ++ os).size
    rw [Array.size_append, hsz]; omega
  · show (_ ++ os)[k]? = _
    rw [Array.getElem?_append_left (by rw [hsz]; exact hk), hh, if_neg (fun e => hne (by rw [e]))]
/-- Six numbers in ascending order. -/
def srt6 (l : List Int) : A6 := match l.mergeSort (fun x y => decide (x ≤ y)) with
  | [a, b, c, d, e, f] => ⟨a, b, c, d, e, f⟩
  | _ => ⟨0, 0, 0, 0, 0, 0⟩
theorem srt6_f {l : List Int} (h : l.length = 6) : f6 (srt6 l) = l.mergeSort (fun x y => decide (x ≤ y)) := by
  obtain ⟨a, b, c, d, e, f, he⟩ := list6 (show (l.mergeSort (fun x y => decide (x ≤ y))).length = 6 by rw [List.length_mergeSort]; exact h)
  unfold srt6
  rw [he]; rfl
theorem srt6_perm {l : List Int} (h : l.length = 6) : (f6 (srt6 l)).Perm l := by rw [srt6_f h]; exact List.mergeSort_perm _ _
theorem srt6_asc {l : List Int} (h : l.length = 6) : (f6 (srt6 l)).Pairwise (· ≤ ·) := by
  rw [srt6_f h]
  exact (List.pairwise_mergeSort (le := fun x y : Int => decide (x ≤ y)) (by intro a b c; simp; omega) (by intro a b; simp; omega) l).imp (by intro a b; simp)
theorem sort_b6 (x : A6) (g : Nat) (w : World) (h : B6 w g x) :
    Calls Try.prog 74 #[.slice (some ⟨g, 0, none⟩) 6 6] w fun e w' => e = .returned (.tuple #[]) ∧ B6 w' g (srt6 (f6 x)) ∧ w.grownBy w' (some g) := by
  have hcon := Go.Proofs.Try.slices_Sort_int g 0 6 (f6 x) w h.holds h.lt (by simp [f6])
  change Calls Try.prog 74 _ _ _ at hcon
  refine hcon.mono ?_
  rintro e w' ⟨rfl, q, os, rfl⟩
  have e : (f6 x).mergeSort (fun x y => decide (x ≤ y)) = f6 (srt6 (f6 x)) := (srt6_f rfl).symm
  rw [e]
  exact ⟨rfl, h.put _ q os⟩

/-- Lists of numbers compared. -/
def cmpL : List Int → List Int → Int
  | x :: a, y :: b => if cmpI x y ≠ 0 then cmpI x y else cmpL a b
  | _, _ => 0
set_option maxRecDepth 100000 in
set_option maxHeartbeats 4000000 in
theorem slices_cmp6 (x y : A6) (g1 g2 : Nat) (w : World) (h1 : B6 w g1 x) (h2 : B6 w g2 y) :
    Calls Try.prog 77 #[.slice (some ⟨g1, 0, none⟩) 6 6, .slice (some ⟨g2, 0, none⟩) 6 6] w fun e w' => e = .returned (.int .i64 (cmpL (f6 x) (f6 y))) ∧ w = w' := by
  obtain ⟨a0, a1, a2, a3, a4, a5⟩ := h1.cell
  obtain ⟨b0, b1, b2, b3, b4, b5⟩ := h2.cell
  clear h1 h2
  obtain ⟨qa, ea⟩ : ∃ q, q = cmpI x.a y.a := ⟨_, rfl⟩
  obtain ⟨qb, eb⟩ : ∃ q, q = cmpI x.b y.b := ⟨_, rfl⟩
  obtain ⟨qc, ec⟩ : ∃ q, q = cmpI x.c y.c := ⟨_, rfl⟩
  obtain ⟨qd, ed⟩ : ∃ q, q = cmpI x.d y.d := ⟨_, rfl⟩
  obtain ⟨qe, ee⟩ : ∃ q, q = cmpI x.e y.e := ⟨_, rfl⟩
  obtain ⟨qf, ef⟩ : ∃ q, q = cmpI x.f y.f := ⟨_, rfl⟩
  have ka := Lib.hid (fun w => cmp_int x.a y.a w)
  have kb := Lib.hid (fun w => cmp_int x.b y.b w)
  have kc := Lib.hid (fun w => cmp_int x.c y.c w)
  have kd := Lib.hid (fun w => cmp_int x.d y.d w)
  have ke := Lib.hid (fun w => cmp_int x.e y.e w)
  have kf := Lib.hid (fun w => cmp_int x.f y.f w)
  obtain ⟨r, er, HC⟩ : ∃ r, r = cmpL (f6 x) (f6 y) ∧ Hid (r = if qa ≠ 0 then qa else if qb ≠ 0 then qb else if qc ≠ 0 then qc else if qd ≠ 0 then qd else if qe ≠ 0 then qe else if qf ≠ 0 then qf else 0) := ⟨_, rfl, by show cmpL (f6 x) (f6 y) = _; rw [ea, eb, ec, ed, ee, ef]; rfl⟩
  rw [← er]
  rw [← ea] at ka
  rw [← eb] at kb
  rw [← ec] at kc
  rw [← ed] at kd
  rw [← ee] at ke
  rw [← ef] at kf
  clear ea eb ec ed ee ef er
  go_enter Try.func77, Try.ntmps77
  go_wp2_with fail
  refine wp_loop_rounds 7 ?_
  rw [rounds_succ]
  go_wp2_with fail
  refine (ka.out _).mono ?_
  rintro e w' ⟨rfl, rfl⟩
  cases ha : (qa != 0)
  · go_wp2_with fail
    rw [rounds_succ]
    go_wp2_with fail
    refine (kb.out _).mono ?_
    rintro e w' ⟨rfl, rfl⟩
    cases hb : (qb != 0)
    · go_wp2_with fail
      rw [rounds_succ]
      go_wp2_with fail
      refine (kc.out _).mono ?_
      rintro e w' ⟨rfl, rfl⟩
      cases hc : (qc != 0)
      · go_wp2_with fail
        rw [rounds_succ]
        go_wp2_with fail
        refine (kd.out _).mono ?_
        rintro e w' ⟨rfl, rfl⟩
        cases hd : (qd != 0)
        · go_wp2_with fail
          rw [rounds_succ]
          go_wp2_with fail
          refine (ke.out _).mono ?_
          rintro e w' ⟨rfl, rfl⟩
          cases he : (qe != 0)
          · go_wp2_with fail
            rw [rounds_succ]
            go_wp2_with fail
            refine (kf.out _).mono ?_
            rintro e w' ⟨rfl, rfl⟩
            cases hf : (qf != 0)
            · go_wp2_with fail
              rw [rounds_succ]
              go_wp2_with fail
              go_ret
              exact ⟨ret_int (by rw [HC.out]; simp_all), rfl⟩
            · go_wp2_with fail
              go_ret
              exact ⟨ret_int (by rw [HC.out]; simp_all), rfl⟩
          · go_wp2_with fail
            go_ret
            exact ⟨ret_int (by rw [HC.out]; simp_all), rfl⟩
        · go_wp2_with fail
          go_ret
          exact ⟨ret_int (by rw [HC.out]; simp_all), rfl⟩
      · go_wp2_with fail
        go_ret
        exact ⟨ret_int (by rw [HC.out]; simp_all), rfl⟩
    · go_wp2_with fail
      go_ret
      exact ⟨ret_int (by rw [HC.out]; simp_all), rfl⟩
  · go_wp2_with fail
    go_ret
    exact ⟨ret_int (by rw [HC.out]; simp_all), rfl⟩
end Go.Proofs.Ytjmlefcmhjodeaa.others

/- A row of ghosts sorted by the program's comparing function. -/
namespace Go.Proofs.Ytjmlefcmhjodeaa.others
open Go.RowKit
open cards
set_option linter.unusedVariables false

def cmp6 (x y : A6) : Int := cmpL (f6 x) (f6 y)
theorem cmpL_cons {x y : Int} {a b : List Int} : cmpL (x :: a) (y :: b) < 0 ↔ x < y ∨ (x = y ∧ cmpL a b < 0) := by
  rw [cmpL]
  by_cases e : x = y
  · rw [if_neg (by rw [cmpI_zero.2 e]; simp)]
    constructor
    · exact fun h => .inr ⟨e, h⟩
    · rintro (h | h)
      · omega
      · exact h.2
  · rw [if_pos (by rw [ne_eq, cmpI_zero]; exact e), cmpI_neg]
    constructor
    · exact fun h => .inl h
    · rintro (h | h)
      · exact h
      · exact absurd h.1 e
theorem cmp6_lt (x y : A6) : cmp6 x y < 0 ↔ lex6 x y := by
  unfold cmp6 lex6 f6
  rw [cmpL_cons, cmpL_cons, cmpL_cons, cmpL_cons, cmpL_cons, cmpL_cons]
  have e : ¬ cmpL [] [] < 0 := by unfold cmpL; omega
  simp only [e, and_false, or_false]
theorem lt6 (x y : A6) : Go.Proofs.ltOf cmp6 x y = decide (cmp6 x y < 0) := rfl
theorem swo6 : Go.Sort.SWO (Go.Proofs.ltOf cmp6) where
  irrefl x := by rw [lt6, decide_eq_false_iff_not, cmp6_lt]; exact lex6_irr x
  trans x y z h1 h2 := by rw [lt6, decide_eq_true_iff, cmp6_lt] at *; unfold lex6 at *; omega
  ntrans x y z h1 h2 := by rw [lt6, decide_eq_false_iff_not, cmp6_lt] at *; unfold lex6 at *; omega
instance : Inhabited A6 := ⟨⟨0, 0, 0, 0, 0, 0⟩⟩

set_option maxRecDepth 100000 in
set_option maxHeartbeats 4000000 in
theorem ghost_grow (x y : A6) (w : World) :
    Calls Try.prog 109 #[x.val, y.val] w fun e w' => e = .returned (.int .i64 (cmp6 x y)) ∧ ∃ q os, w' = Go.Sort.grow (w.drewN q) os := by
  have HK0 : Hid (B6 ((w.alloc x.obj).alloc y.obj) w.heap.size x) := Lib.hid ((B6.newAt rfl rfl).alloc _)
  have HK1 : Hid (B6 ((w.alloc x.obj).alloc y.obj) (w.heap.size + 1) y) := Lib.hid (B6.newAt (by simp) rfl)
  go_enter Try.func109, Try.ntmps109
  go_upto_region 1 with fail
  go_quiet ((go_at_call 77; exact Calls.quiet_of_same ((slices_cmp6 x y _ _ _ (HK0.out.drewN _) (HK1.out.drewN _)).mono fun _ _ h => ⟨h.1, h.2.symm⟩)))
  go_wp2_with fail
  go_ret
  exact ⟨rfl, _, _, by rw [Go.Sort.alloc_eq_grow, Go.Sort.alloc_eq_grow, Go.Sort.grow_grow]; rfl⟩
theorem ghost_lays (blk off size : Nat) (w : World) : Go.Proofs.CmpLays Try.prog 109 #[] A6.cells 6 cmp6 blk off size w := fun _ _ _ _ x y => ghost_grow x y _

theorem flat6_get : ∀ (l : List A6) (t : Nat), t < l.length * 6 → (A6.flat l)[t]? = some ((l.toArray[t / 6]!).cells[t % 6]!)
  | [], t, h => by simp at h
  | x :: r, t, h => by
    have e : A6.flat (x :: r) = x.cells ++ A6.flat r := rfl
    rcases Nat.lt_or_ge t 6 with h4 | h4
    · rw [e, List.getElem?_append_left (by simp [A6.cells]; omega)]
      rcases (show t = 0 ∨ t = 1 ∨ t = 2 ∨ t = 3 ∨ t = 4 ∨ t = 5 by omega) with rfl | rfl | rfl | rfl | rfl | rfl <;> rfl
    · rw [e, List.getElem?_append_right (by simp [A6.cells]; omega)]
      have ih := flat6_get r (t - 6) (by simp at h; omega)
      have hl : x.cells.length = 6 := rfl
      rw [hl, ih]
      obtain ⟨k, hk⟩ : ∃ k, t / 6 = k + 1 := ⟨t / 6 - 1, by omega⟩
      have h1 : (t - 6) / 6 = k := by omega
      have h2 : (t - 6) % 6 = t % 6 := by omega
      rw [hk, h1, h2]
      congr 2
      simp [getElem!_def]
theorem flatK6 (l : List A6) : (Go.Sort.flatK A6.cells 6 l.toArray).toList = A6.flat l := by
  apply List.ext_getElem?
  intro t
  by_cases h : t < l.length * 6
  · rw [flat6_get l t h]
    have hs : t < (Go.Sort.flatK A6.cells 6 l.toArray).size := by rw [Go.Sort.size_flatK]; simpa using h
    have := Go.Sort.get_flatK A6.cells 6 l.toArray t (by simpa using h)
    rw [getElem!_pos _ t hs] at this
    rw [Array.getElem?_toList, Array.getElem?_eq_getElem hs, this]
  · rw [List.getElem?_eq_none (by rw [Array.length_toList, Go.Sort.size_flatK]; simp; omega), List.getElem?_eq_none (by rw [A6.flat_len]; omega)]
theorem own6_holds {w : World} {B g n cap : Nat} {l : List A6} (hn : l.length = n) (h : OwnA6 w B (.slice (some ⟨g, 0, none⟩) n cap) l) : Go.Sort.HoldsK A6.cells 6 w g 0 l.toArray := by
  subst hn
  intro j hj
  have hj' : j < l.length * 6 := by simpa using hj
  have h' : w.ownsRow B 87 6 (.slice (some ⟨g, 0, none⟩) l.length cap) l.length (A6.flat l) := h
  refine ⟨?_, World.ownsRow.frozenAt h' (0 + j)⟩
  rw [Nat.zero_add, World.ownsRow.cellAt h' j (by omega), flat6_get l j hj']
  have := Go.Sort.get_flatK A6.cells 6 l.toArray j (by simpa using hj')
  rw [this]; rfl
theorem own6_put {w : World} {B g n cap : Nat} {l l' : List A6} (hn : l.length = n) (hl : l'.length = n) (h : OwnA6 w B (.slice (some ⟨g, 0, none⟩) n cap) l) (q : Nat) (os : Array Obj) :
    OwnA6 (Go.Sort.grow (Go.Sort.putRowK A6.cells 6 (Go.Sort.ahead w q) g 0 l'.toArray) os) B (.slice (some ⟨g, 0, none⟩) n cap) l' ∧ w.grownBy (Go.Sort.grow (Go.Sort.putRowK A6.cells 6 (Go.Sort.ahead w q) g 0 l'.toArray) os) (some g) := by
  have hh : ∀ k, (Go.Sort.putRowK A6.cells 6 (Go.Sort.ahead w q) g 0 l'.toArray).heap[k]? = if g = k then (w.heap[k]?).map (Go.Sort.onCells (Go.Sort.putCells id 0 (Go.Sort.flatK A6.cells 6 l'.toArray))) else w.heap[k]? := fun k => by
    unfold Go.Sort.putRowK Go.Sort.putRow Go.Sort.mapBlock Go.Sort.ahead
    simp only [Array.getElem?_modify]
  have hsz : (Go.Sort.putRowK A6.cells 6 (Go.Sort.ahead w q) g 0 l'.toArray).heap.size = w.heap.size := by
    unfold Go.Sort.putRowK Go.Sort.putRow Go.Sort.mapBlock Go.Sort.ahead
    simp
  obtain ⟨h0, ⟨e, _⟩ | ⟨g', cap', cur, e, hB, hg, hc, hm, hs, ht⟩⟩ := h
  · exact absurd e (by simp)
  · injection e with e1 e2 e3
    injection e1 with e1
    injection e1 with e1
    subst e1; subst e3
    have hlt : g < w.heap.size := (Array.getElem?_eq_some_iff.1 hg).1
    have hgn : l.length = n := hn
    refine ⟨⟨by rw [A6.flat_len, hl]; omega, .inr ⟨g, cap, Go.Sort.putCells id 0 (Go.Sort.flatK A6.cells 6 l'.toArray) cur, by rw [hl], hB, ?_, by omega, hm, ?_, ?_⟩⟩, ⟨rfl, rfl, rfl, ?_, fun k hk hne => ?_⟩⟩
    · show (_ ++ os)[g]? = _
      rw [Array.getElem?_append_left (by rw [hsz]; exact hlt), hh, if_pos rfl, hg]
      rfl
    · unfold Go.Sort.putCells; rw [Array.size_mapIdx]; exact hs
    · rw [← flatK6]
      apply List.ext_getElem?
      intro t
      have hF : (Go.Sort.flatK A6.cells 6 l'.toArray).size = n * 6 := by rw [Go.Sort.size_flatK]; simp [hl]
      by_cases htn : t < n * 6
      · have htc : t < cur.size := by rw [hs]; have := Nat.mul_le_mul_right 6 hc; omega
        rw [List.getElem?_take_of_lt (by rw [hl]; exact htn), Array.getElem?_toList, Array.getElem?_toList]
        unfold Go.Sort.putCells
        rw [Array.getElem?_mapIdx, Array.getElem?_eq_getElem htc]
        simp only [Option.map_some]
        rw [if_pos ⟨Nat.zero_le _, by omega⟩, Nat.sub_zero, getElem!_pos _ t (by omega), Array.getElem?_eq_getElem (by omega)]
        rfl
      · rw [List.getElem?_eq_none (by rw [List.length_take]; omega), List.getElem?_eq_none (by rw [Array.length_toList]; omega)]
    · show w.heap.size ≤ (_ ++ os).size
      rw [Array.size_append, hsz]; omega
    · show (_ ++ os)[k]? = _
      rw [Array.getElem?_append_left (by rw [hsz]; exact hk), hh, if_neg (fun e => hne (by rw [e]))]
theorem sort_ghosts (l : List A6) (g n cap B : Nat) (w : World) (hn : l.length = n) (hl : n ≤ 1000000000) (hO : OwnA6 w B (.slice (some ⟨g, 0, none⟩) n cap) l) :
    Calls Try.prog 139 #[.slice (some ⟨g, 0, none⟩) n cap, .func (.func 109) #[] #[]] w fun e w' => e = .returned (.tuple #[]) ∧ ∃ l' : List A6, l'.Perm l ∧ l'.length = n ∧ (∀ (i j : Nat) (x y : A6), i < j → l'[i]? = some x → l'[j]? = some y → ¬ lex6 y x) ∧ OwnA6 w' B (.slice (some ⟨g, 0, none⟩) n cap) l' ∧ w.grownBy w' (some g) := by
  have eg : ∀ args w, (callFunc 109 args).run Try.prog w = .ok (.enter 109 args) w := enters_of Try.func109 (by kernel_rfl) rfl
  have hg : g < w.heap.size := (World.ownsRow.lt hO g rfl).2
  have hcon := Go.Proofs.AnyQ.slices_SortFunc Go.Proofs.Try.sortG6 6 Try.isAgg87 Try.sizeOf87 A6.cells (fun _ => rfl) (fun x v hv => by simp [A6.cells] at hv; rcases hv with rfl | rfl | rfl | rfl | rfl | rfl <;> rfl) cmp6 swo6 109 #[] g 0 cap l.toArray w eg (ghost_lays g 0 _ w) (own6_holds hn hO) hg (by simp; omega)
  have hsz : l.toArray.size = n := by simpa using hn
  rw [hsz] at hcon
  change Calls Try.prog 139 _ _ _ at hcon
  refine hcon.mono ?_
  rintro e w' ⟨rfl, d', q, os, ⟨hp1, hp2, hp3⟩, hs, rfl⟩
  have hd : d'.size = n := by rw [hp1, hsz]
  have e1 : (d'.extract 0 n).toList = d'.toList := by rw [← hd]; simp
  have e2 : (l.toArray.extract 0 n).toList = l := by rw [← hsz]; simp
  rw [e1, e2] at hp3
  have hlen : d'.toList.length = n := by simpa using hd
  have ho := own6_put (q := q) (os := os) hn hlen hO
  refine ⟨rfl, d'.toList, hp3, hlen, fun i j x y hij hx hy => ?_, ?_, ?_⟩
  · have hj : j < n := by have := (List.getElem?_eq_some_iff.1 hy).1; omega
    have := hs i j (Nat.zero_le _) hij hj
    rw [lt6, decide_eq_false_iff_not] at this
    have g1 : d'[j]! = y := by
      rw [getElem!_def, ← Array.getElem?_toList, hy]
    have g2 : d'[i]! = x := by
      rw [getElem!_def, ← Array.getElem?_toList, hx]
    rw [g1, g2] at this
    rw [← cmp6_lt]; exact this
  · have h := ho.1; rw [Array.toArray_toList] at h; exact h
  · have h := ho.2; rw [Array.toArray_toList] at h; exact h
end Go.Proofs.Ytjmlefcmhjodeaa.others

/- The iterator of maps.Keys over a set of ghosts: for every loop body. -/
namespace Go.Proofs.Ytjmlefcmhjodeaa.others
open Go.RowKit Go.Shelf
open Go.Maps (Keyed)
open cards
attribute [local go_sem] Oper.semAt_some
set_option linter.unusedVariables false

/-- The ghosts whose entries have come out of the range. -/
structure Seen6 (D : DataW Unit) (left : Lit → Bool) (S : List A6) : Prop where
  nodup : S.Pairwise (· ≠ ·)
  ok : ∀ c, c ∈ S → sm6 c
  has : ∀ c, c ∈ S → Maps.has D (kl6 c) = true
  sub : ∀ k, left k = true → Maps.has D k = true
  out : ∀ c : A6, sm6 c → left (kl6 c) = true → c ∉ S
  all : ∀ c : A6, sm6 c → Maps.has D (kl6 c) = true → left (kl6 c) = false → c ∈ S
theorem Seen6.start (D : DataW Unit) : Seen6 D (Maps.has D) [] where
  nodup := .nil
  ok c h := by simp at h
  has c h := by simp at h
  sub k h := h
  out c _ _ := by simp
  all c _ h1 h2 := by rw [h1] at h2; cases h2
theorem Seen6.step {D : DataW Unit} {left : Lit → Bool} {S : List A6} (h : Seen6 D left S) {c : A6} (hc : sm6 c) (hl : left (kl6 c) = true) : Seen6 D (fun x => left x && !x.sameKey (kl6 c)) (S ++ [c]) where
  nodup := by
    rw [List.pairwise_append]
    refine ⟨h.nodup, by simp, fun x hx y hy e => ?_⟩
    obtain rfl : y = c := by simpa using hy
    subst e
    exact h.out x hc hl hx
  ok x hx := by
    rcases List.mem_append.1 hx with hx | hx
    · exact h.ok x hx
    · obtain rfl : x = c := by simpa using hx
      exact hc
  has x hx := by
    rcases List.mem_append.1 hx with hx | hx
    · exact h.has x hx
    · obtain rfl : x = c := by simpa using hx
      exact h.sub _ hl
  sub k hk := by
    rw [Bool.and_eq_true] at hk
    exact h.sub k hk.1
  out x hx hlx hm := by
    rw [Bool.and_eq_true] at hlx
    rcases List.mem_append.1 hm with hm | hm
    · exact h.out x hx hlx.1 hm
    · obtain rfl : x = c := by simpa using hm
      have := hlx.2
      rw [WideAt.sameKey_self (kl6_key hc)] at this
      cases this
  all x hx hd hlx := by
    by_cases e : x = c
    · subst e; simp
    · have hne : kl6 x ≠ kl6 c := fun e2 => e (kl6_inj hx hc e2)
      rw [Maps.sameKey_ne hne] at hlx
      simp at hlx
      exact List.mem_append.2 (.inl (h.all x hx hd hlx))
theorem Seen6.mem {D : DataW Unit} {left : Lit → Bool} {S : List A6} (h : Seen6 D left S) (hl : ∀ k, left k = false) {c : A6} (hc : sm6 c) : c ∈ S ↔ Maps.has D (kl6 c) = true := ⟨h.has c, fun e => h.all c hc e (hl _)⟩
/-- One entry comes out of the range of a set of ghosts. -/
theorem next_ghost {F : Fence} {n : Nat} {w : World} {ops : Array Oper} {rest : List Oper} {o : Oper} {a : Act} {Q : Exit → Act → World → Prop} (hg : o.guard = none) (it : Operand) (hop : o.op = Op.next it false) (b r nn : Nat) (D : DataW Unit) (left : Lit → Bool) (cnt : Nat)
    (hit : a.eval it = .pointer (some ⟨r, 0, none⟩)) (h : w.ranges Try.prog 87 (plainElem Try.prog 4) b r nn D left cnt) (inv : ∀ k, left k = true → ∃ x : A6, sm6 x ∧ k = kl6 x)
    (hDone : cnt = 0 → (∀ kl, left kl = false) → wpListIn F n Try.prog ops Q rest (a.put o.dst (.tuple #[.bool false])) w)
    (hMore : ∀ (x : A6) (c : Value) (w' : World) (cnt' : Nat), sm6 x → left (kl6 x) = true → w'.ranges Try.prog 87 (plainElem Try.prog 4) b r nn D (fun z => left z && !z.sameKey (kl6 x)) cnt' → cnt' < cnt →
      w.grownBy w' (some r) → w'.heap.size = w.heap.size → (Instr.entry (.pointer (some ⟨r, 0, none⟩))).run Try.prog w' = .ok (.tuple #[x.val, c]) w' → wpListIn F n Try.prog ops Q rest (a.put o.dst (.tuple #[.bool true, x.val, c])) w') :
    wpListIn F n Try.prog ops Q (o :: rest) a w := by
  refine wpListIn_plain hg fun K' hK' => ?_
  unfold Oper.wpIn
  refine ⟨by simp [Oper.about, hop], ?_⟩
  rw [Oper.semAt_plain F _ _ (by rw [hop]; intro c hc'; cases hc')]
  rcases h.next mlaw6 o.type with ⟨h0, hl, hrun⟩ | ⟨key, v, kl, y, w', cnt', hkey, hlk, hv, hat, hrun, hrg, hlt, hgr, hsz, hen⟩
  · simp [execOp, hop, hit, hrun, Result.andThen]
    exact hK' _ _ (hDone h0 hl)
  · obtain ⟨x, hx, rfl⟩ := inv kl hlk
    obtain rfl := key6_val hx hkey
    simp [execOp, hop, hit, hrun, Result.andThen]
    exact hK' _ _ (hMore x v w' cnt' hx hlk hrg hlt hgr hsz hen)

set_option maxRecDepth 100000 in
set_option maxHeartbeats 2000000 in
/-- The iterator: for every loop body. -/
theorem keys_ghost (n : Nat) (hn : 1 ≤ n) (l Bm b nn : Nat) (D0 : DataW Unit) (hk : ∀ k, Maps.has D0 k = true → ∃ x, sm6 x ∧ k = kl6 x) (J Jx : List A6 → World → Prop)
    (hY : ∀ pre x W, J pre W → pre.length < Maps.size D0 → YieldAt Fence.wide (n - 1) Try.prog l #[x.val] W fun e W' =>
      (e = .returned (.bool true) ∧ J (pre ++ [x]) W' ∧ KeepsWalks W W') ∨ (e = .returned (.bool false) ∧ Jx (pre ++ [x]) W'))
    (W : World) (hJ : AbidesFrom W.heap.size J) (hm : W.cell? ⟨Bm, 0, none⟩ = some (.map (some b))) (hown : W.ownsMap Try.prog 87 (plainElem Try.prog 4) b nn D0) (h0 : J [] W) :
    CallsIn Fence.wide n Try.prog 140 #[.func (.yield l) #[] #[], .pointer (some ⟨Bm, 0, none⟩)] W fun e W' => (∃ v, e = .returned v) ∧
      ((∃ ss : List A6, (ss.Pairwise (· ≠ ·) ∧ (∀ c, c ∈ ss → sm6 c) ∧ ss.length ≤ Maps.size D0 ∧ ∀ c : A6, sm6 c → (c ∈ ss ↔ Maps.has D0 (kl6 c) = true)) ∧ J ss W') ∨ (∃ pre : List A6, True ∧ Jx pre W')) := by
  refine callsIn_of_wp Try.func140 rfl trivial ?_ rfl
  simp only [Try.ntmps140, List.size_toArray, List.length_cons, List.length_nil, Nat.reduceAdd, Nat.reduceSub, Array.replicate_succ, Array.replicate_zero, List.push_toArray, List.append_toArray, List.nil_append, List.cons_append]
  gi_wp2_with (first
    | (gi_at_range; refine wpListIn_range_own _ rfl _ 112 rfl 87 4 mlaw6 Try.underlying112 _ b nn _ rfl hown ?_; intro w0 hrg0 hg0 hs0)
    | gi_in)
  go_frame
  gi_loopw [3] (fun _ wr => ∃ (left : Lit → Bool) (cnt : Nat) (ss : List A6), wr.ranges Try.prog 87 (plainElem Try.prog 4) b W.heap.size nn D0 left cnt ∧ ss.length + cnt ≤ Maps.size D0 ∧ Seen6 D0 left ss ∧ J ss wr)
    (fun _ wr => wr.rangeLeft b W.heap.size)
  case atStart =>
    exact ⟨_, _, [], hrg0, by simp, Seen6.start D0, hJ [] W w0 none h0 hg0 (fun r e => by cases e)⟩
  case round =>
    obtain ⟨left, cnt, ss, hrg, hcs, hC, hJs⟩ := hrel
    gi_wp2_with (first
      | (gi_at_next; refine next_ghost rfl _ rfl b W.heap.size nn _ _ _ rfl hrg (fun k h => hk k (hC.sub k h)) ?_ ?_)
      | gi_in)
    · intro hc0 hl0
      gi_wp2
      go_end0
      exact ⟨⟨_, rfl⟩, .inl ⟨ss, ⟨hC.nodup, hC.ok, by omega, fun c hc => hC.mem hl0 hc⟩, hJs⟩⟩
    · intro x c w2 cnt2 hx hlk hrg2 hlt hg2 hs2 hen
      have hC2 := hC.step hx hlk
      have hJ2 : J ss w2 := hJ ss wr w2 (some W.heap.size) hJs hg2 (fun r e => by cases e; exact ⟨Nat.le_refl _, hrg.iter_walk⟩)
      have hJ3 : J ss (w2.alloc x.obj) := hJ ss w2 _ none hJ2 (World.grownBy_alloc _ _ _) (fun r e => by cases e)
      have hrg3 := hrg2.alloc x.obj
      obtain ⟨fn, tmps, assign, body, hy, hR⟩ := hY ss x (w2.alloc x.obj) hJ3 (by omega)
      clear hs2
      gi_wp2
      refine hR.mono ?_
      rintro e W3 (⟨rfl, hJ4, hk4⟩ | ⟨rfl, hJx⟩)
      · gi_wp2
        have hrg4 := hrg3.of_walks hk4
        go_roundw
        case rel => exact ⟨_, cnt2, ss ++ [x], hrg4, by simp; omega, hC2, hJ4⟩
        case measure => rw [hrg4.left_eq, hrg.left_eq]; exact hlt
      · gi_wp2
        refine bodyPost_ret (results_none rfl _ _ _) rfl ?_
        exact ⟨⟨_, rfl⟩, .inr ⟨ss ++ [x], trivial, hJx⟩⟩
end Go.Proofs.Ytjmlefcmhjodeaa.others

/- slices.SortedFunc of maps.Keys of a set of ghosts: all of them, sorted. -/
namespace Go.Proofs.Ytjmlefcmhjodeaa.others
open Go.RowKit Go.Shelf
open Go.Maps (Keyed)
open cards
attribute [local go_sem] Oper.semAt_some
set_option linter.unusedVariables false

/-- What maps.Keys gives of a set. -/
def gives6 (nn : Nat) (S ss : List A6) : Prop := ss.Pairwise (· ≠ ·) ∧ (∀ c, c ∈ ss → sm6 c) ∧ ss.length ≤ nn ∧ ∀ c : A6, sm6 c → (c ∈ ss ↔ c ∈ S)
set_option maxHeartbeats 1000000 in
theorem keys_map (n : Nat) (mb : Option Nat) (w : World) :
    CallsIn Fence.wide n Try.prog 108 #[.map mb] w fun e w' => e = .returned (.func (.func 140) #[] #[.pointer (some ⟨w.heap.size, 0, none⟩)]) ∧ w' = w.alloc (.cells #[.map mb] 112) := by
  refine callsIn_of_wp Try.func108 rfl trivial ?_ rfl
  simp only [Try.ntmps108, List.size_toArray, List.length_cons, List.length_nil, Nat.reduceAdd, Nat.reduceSub, Array.replicate_succ, Array.replicate_zero, List.push_toArray, List.append_toArray, List.nil_append, List.cons_append]
  gi_wp2
  go_ret
  exact ⟨rfl, rfl⟩
theorem keys_stops (n : Nat) (hn : 1 ≤ n) (Bm b nn : Nat) (S : List A6) (w : World) (hBm : Bm < w.heap.size) (hm : w.cell? ⟨Bm, 0, none⟩ = some (.map (some b))) (hM : MapG w b nn S) :
    SeqStopsK Fence.wide n Try.prog 140 #[.pointer (some ⟨Bm, 0, none⟩)] (fun x : A6 => #[x.val]) KeepsWalks (gives6 nn S) (fun _ => True) nn w := fun l J Jx W hW hJ _ hY h0 => by
  obtain ⟨D, h1, h2, h3, h4, h5⟩ := hM.below hW
  refine (keys_ghost n hn l Bm b nn D h4 J Jx (fun pre x W hj hl => hY pre x W hj (by omega)) W hJ ((hW.cell (p := ⟨Bm, 0, none⟩) hBm).trans hm) h1 h0).mono ?_
  rintro e W' ⟨hv, ⟨ss, ⟨g1, g2, g3, g4⟩, hj⟩ | ⟨pre, _, hj⟩⟩
  · exact ⟨hv, .inl ⟨ss, ⟨g1, g2, Nat.le_trans g3 h5, fun c hc => (g4 c hc).trans (h3 c hc)⟩, hj⟩⟩
  · exact ⟨hv, .inr ⟨pre, trivial, hj⟩⟩
/-- One array is appended, inside a fence. -/
theorem appendIn_A6 {F : Fence} {n : Nat} {ops : Array Oper} {rest : List Oper} {o : Oper} {a : Act} {Q : Exit → Act → World → Prop} (hgd : o.guard = none) (s x : Operand)
    (ho : o.op = .call { callee := .builtin .append, args := #[s, x], argTypes := #[52, 52] }) (B : Nat) (v : Value) (l : List A6) (q : A6) (W : World) (g : Nat) (hg : W.heap.size = g)
    (hs : a.eval s = v) (hx : a.eval x = .slice (some ⟨g, 0, none⟩) 1 1) (hO : OwnA6 W B v l) (hl : l.length ≤ 1000000000) (hB : B ≤ W.heap.size)
    (h : ∀ v' w', OwnA6 w' B v' (l ++ [q]) → (W.alloc q.obj).grownBy w' v.ownBlock → wpListIn F n Try.prog ops Q rest (a.put o.dst v') w') : wpListIn F n Try.prog ops Q (o :: rest) a (W.alloc q.obj) := by
  subst hg
  obtain ⟨i, hi, hz, hsz, hb⟩ := info_parts A6.info
  refine wpListIn_append_own (P := Try.prog) (W.alloc q.obj) hgd s x 52 ho B 87 i (.agg #[.int .i64 0, .int .i64 0, .int .i64 0, .int .i64 0, .int .i64 0, .int .i64 0]) 6 48 Try.underlying52 hi hz hsz hb rfl (by decide) v l.length (A6.flat l) hs (hO.alloc _) ⟨W.heap.size, 0, none⟩ 1 1 q.cells hx rfl ?_ ?_ ?_ ?_ ?_ ?_
  · intro j u hu
    have hj : j < 6 := by have := (List.getElem?_eq_some_iff.1 hu).1; simpa [A6.cells] using this
    have hadd : (⟨W.heap.size, 0, none⟩ : Addr).add j = ⟨W.heap.size, j, none⟩ := by
      unfold Addr.add; split <;> simp_all
    rw [hadd, cell_of_row _ _ j _ _ _ (heap_alloc_new W _)]
    rw [← hu]; simp [A6.cells]
  · intro u hu; simp [A6.cells] at hu; rcases hu with rfl | rfl | rfl | rfl | rfl | rfl <;> rfl
  · simp only [maxLen]; omega
  · omega
  · have : (W.alloc q.obj).heap.size = W.heap.size + 1 := by simp
    omega
  · intro v' w' h1 h2 _
    refine h v' w' ?_ h2
    unfold OwnA6
    rw [List.length_append]
    have e : A6.flat (l ++ [q]) = A6.flat l ++ q.cells := by simp [A6.flat]
    rw [e]; exact h1

theorem hte6 : 52 ≠ 87 := by decide
theorem own6_row {w : World} {B : Nat} {v : Value} {l : List A6} {x : A6} (h : OwnA6 w B v (l ++ [x])) : w.ownsRow B 87 6 v (l.length + 1) (A6.flat (l ++ [x])) := by
  unfold OwnA6 at h
  rw [List.length_append] at h
  exact h
set_option maxRecDepth 100000 in
set_option maxHeartbeats 4000000 in
theorem append_keys (n : Nat) (hn : 4 ≤ n) (Bm b nn : Nat) (S : List A6) (hnn : nn ≤ 1000000) (w : World) (hBm : Bm < w.heap.size) (hm : w.cell? ⟨Bm, 0, none⟩ = some (.map (some b))) (hM : MapG w b nn S) :
    CallsIn Fence.wide n Try.prog 150 #[.slice none 0 0, .func (.func 140) #[] #[.pointer (some ⟨Bm, 0, none⟩)]] w fun e w' =>
      ∃ (v : Value) (ss : List A6), e = .returned v ∧ gives6 nn S ss ∧ OwnA6 w' w.heap.size v ss ∧ Below w.heap.size w w' := by
  have h1 : 1 ≤ n := by omega
  refine callsIn_of_wp_marks Try.func150 rfl trivial ?_ rfl
  simp only [Try.ntmps150, List.size_toArray, List.length_cons, List.length_nil, Nat.reduceAdd, Nat.reduceSub, Array.replicate_succ, Array.replicate_zero, List.push_toArray, List.append_toArray, List.nil_append, List.cons_append]
  gi_wp2
  obtain ⟨W0, hW0⟩ : ∃ W0, w.alloc (.cells #[.slice none 0 0] 52) = W0 := ⟨_, rfl⟩
  have hs0 : W0.heap.size = w.heap.size + 1 := by rw [← hW0]; simp
  have bO : Boxed W0 w.heap.size 52 (.slice none 0 0) := by rw [← hW0]; exact Boxed.new _ _ _
  have hb0 : Below w.heap.size w W0 := by rw [← hW0]; exact (Below.refl _ w).alloc (Nat.le_refl _) _
  have hM0 : MapG W0 b nn S := hM.below hb0
  have hm0 : W0.cell? ⟨Bm, 0, none⟩ = some (.map (some b)) := (hb0.cell (p := ⟨Bm, 0, none⟩) hBm).trans hm
  rw [hW0]
  clear hW0
  refine wpIn_rangeFunc_ownH (F := Fence.wide) rfl (by omega) (gf := 140) (lb := #[.pointer (some ⟨Bm, 0, none⟩)]) rfl trivial (enters_of Try.func140 (by kernel_rfl) rfl)
    (keys_stops (n - 1) (by omega) Bm b nn S W0 (by omega) hm0 hM0) walksK_t walksK_b (Below.refl _ _) (fun _ => rfl)
    (fun pre W => (∃ v, Boxed W w.heap.size 52 v ∧ W.ownsRow w.heap.size 87 6 v pre.length (A6.flat pre) ∧ True) ∧ Below w.heap.size w W)
    (fun _ _ _ => False)
    (OwnFrom.and (Own.from (holdsRow_own w.heap.size w.heap.size 52 87 6 (fun pre : List A6 => pre.length) A6.flat (fun _ _ => True)) _) (ownFrom_below (Nat.le_refl _) (by omega)))
    (fun _ _ _ _ _ hs _ _ => hs)
    ⟨⟨_, bO, ⟨rfl, .inl ⟨rfl, rfl⟩⟩, trivial⟩, hb0⟩
    (fun x a' W => ∃ Bx, W0.heap.size ≤ Bx ∧ B6 W Bx x ∧ a' = { tmps := #[.slice none 0 0, .func (.func 140) #[] #[.pointer (some ⟨Bm, 0, none⟩)], .pointer (some ⟨w.heap.size, 0, none⟩), undef, .slice none 0 0, .pointer (some ⟨Bx, 0, none⟩), .func (.func 140) #[] #[.pointer (some ⟨Bm, 0, none⟩)], x.val, undef, undef, undef, undef, undef], defers := [] })
    (fun x a' _ X Y row hs hg hr => by
      obtain ⟨Bx, h2, h3, h4⟩ := hs
      exact ⟨Bx, h2, h3.kept hg (fun e => by
        obtain ⟨_, o, ho, hc⟩ := hr Bx e.symm
        rw [show X.heap[Bx]? = _ from h3] at ho; cases ho; cases hc), h4⟩)
    ?assign ?body ?done ?stop
  case assign =>
    rintro l pre x W K ⟨⟨v, hv, hrow, _⟩, hB⟩ hK
    have hsz := hB.size
    gi_wp2
    exact hK _ _ ((KeepsOthers.alloc _ _).from _) (KeepsWalks.alloc _ _) ⟨⟨v, hv.alloc _, hrow.alloc _, trivial⟩, hB.alloc hsz _⟩ ⟨W.heap.size, by have := hv.lt; omega, B6.newAt rfl rfl, rfl⟩
  case body =>
    rintro l pre x a' W hl ⟨r, hr⟩ ⟨⟨v, hv, hrow, _⟩, hB⟩ ⟨Bx, hBx, h6, rfl⟩ hlt
    have hc := hv.cell
    have hsW := hB.size
    obtain ⟨d0, d1, d2, d3, d4, d5⟩ := h6.cell
    have hbx := h6.lt
    have q1 : pre.length ≤ 1000000000 := by omega
    have q2 : OwnA6 W w.heap.size v pre := hrow
    gi_wp2_with (gi_at_builtin; refine appendIn_A6 (n := n - 1 - 1) (F := Fence.wide.inRound l) rfl (.tmp 8) (.tmp 10) rfl w.heap.size v pre x W W.heap.size rfl rfl rfl q2 q1 hsW ?_; intro v' w1 hown' hgrow; obtain ⟨hv1, hv2, hr2, hk2, hb2⟩ := hv.appended hte6 hrow hsW (Nat.le_refl _) (own6_row hown') hgrow; obtain ⟨g', cap', rfl⟩ := ownsRow_succ (own6_row hown'); have hc1 := hv1.cell; have hf1 := hv1.frozen)
    exact ⟨hk2.from _, hk2.walks, ⟨_, hv2, by rw [List.length_append]; exact hr2, trivial⟩, hB.trans hb2⟩
  case done =>
    rintro D ys W hD hS ⟨⟨v, hv, hrow, _⟩, hB⟩ hK
    have hc := hv.cell
    gi_wp2
    refine ⟨by simp, .inl ⟨_, _, rfl, run_takeDeferred hK, ?_⟩⟩
    exact ⟨_, results_tmp rfl _ _ _, v, ys, rfl, hS, ownsRow_putObj hrow _ hK rfl, hB.trans (belowK_b (w := w) (Nat.le_refl _) W D _ _ (by omega) hK rfl rfl)⟩
  case stop =>
    rintro D c pre W _ _ h _
    exact h.elim
end Go.Proofs.Ytjmlefcmhjodeaa.others

/- slices.SortedFunc of maps.Keys of a set of ghosts: all of them, sorted. -/
namespace Go.Proofs.Ytjmlefcmhjodeaa.others
open Go.RowKit Go.Shelf
open Go.Maps (Keyed)
open cards
set_option linter.unusedVariables false

theorem ins_none (fv : Value) (w : World) : Calls Try.prog 154 #[.slice none 0 0, .int .i64 0, .int .i64 0, fv] w fun e w' => e = .returned (.tuple #[]) ∧ w' = w := by
  go_enter Try.func154, Try.ntmps154
  go_wp2
  refine wp_loop_rounds 1 ?_
  rw [rounds_succ]
  go_wp2
  go_end0
  exact ⟨rfl, rfl⟩
theorem pdq_none (fv : Value) (lim : Int) (w : World) : Calls Try.prog 151 #[.slice none 0 0, .int .i64 0, .int .i64 0, .int .i64 lim, fv] w fun e w' => e = .returned (.tuple #[]) ∧ w' = w := by
  have hi := Lib.hid (fun w => ins_none fv w)
  go_enter Try.func151, Try.ntmps151
  go_wp2
  refine wp_loop_rounds 1 ?_
  rw [rounds_succ]
  go_wp2_with fail
  refine (hi.out _).mono ?_
  rintro e w1 ⟨rfl, rfl⟩
  go_wp2
  (try simp only [Exit.inBlock, Exit.then])
  refine bodyPost_ret (results_none rfl _ _ _) rfl ?_
  exact ⟨rfl, rfl⟩
theorem sort_none (fv : Value) (w : World) : Calls Try.prog 139 #[.slice none 0 0, fv] w fun e w' => e = .returned (.tuple #[]) ∧ w' = w := by
  have hp := Lib.hid (fun lim w => pdq_none fv lim w)
  have hl : Hid (∀ w, Calls Try.prog 101 #[.int .u64 0] w fun e w' => e = .returned (.int .i64 (Lib.bitLen 0 : Nat)) ∧ w' = w) := Lib.hid (fun w => by
    have h := Go.Proofs.Any.bits_Len (SlLaysF0.n15.bits (P := Try.prog) (ρ := Go.Proofs.Try.sortG6_ren) { Go.Proofs.Try.sortG6 with }) 0 w (by omega) (by omega)
    exact h)
  go_enter Try.func139, Try.ntmps139
  go_wp2_with fail
  refine (hl.out _).mono ?_
  rintro e w1 ⟨rfl, rfl⟩
  go_wp2_with fail
  refine (hp.out _ _).mono ?_
  rintro e w1 ⟨rfl, rfl⟩
  go_wp2
  go_end0
  exact ⟨rfl, rfl⟩
/-- A set of ghosts, sorted, in a row of its own. -/
theorem collect_keys (Bm b nn : Nat) (S : List A6) (hnn : nn ≤ 1000000) (w : World) (hBm : Bm < w.heap.size) (hm : w.cell? ⟨Bm, 0, none⟩ = some (.map (some b))) (hM : MapG w b nn S) :
    Calls Try.prog 138 #[.func (.func 140) #[] #[.pointer (some ⟨Bm, 0, none⟩)]] w fun e w' => ∃ (v : Value) (ss : List A6), e = .returned v ∧ gives6 nn S ss ∧ OwnA6 w' w.heap.size v ss ∧ Below w.heap.size w w' := by
  have ha : Hid (Calls Try.prog 150 #[.slice none 0 0, .func (.func 140) #[] #[.pointer (some ⟨Bm, 0, none⟩)]] w fun e w' => ∃ (v : Value) (ss : List A6), e = .returned v ∧ gives6 nn S ss ∧ OwnA6 w' w.heap.size v ss ∧ Below w.heap.size w w') :=
    Lib.hid (callsIn_wide.1 (append_keys 4 (Nat.le_refl _) Bm b nn S hnn w hBm hm hM))
  clear hm hM
  go_enter Try.func138, Try.ntmps138
  go_wp2_with fail
  refine ha.out.mono ?_
  rintro e w1 ⟨v, ss, rfl, h1, h2, h3⟩
  go_wp2_with fail
  go_ret
  exact ⟨v, ss, rfl, h1, h2, h3⟩
theorem sorted_keys (Bm b nn : Nat) (S : List A6) (hnn : nn ≤ 1000000) (w : World) (hBm : Bm < w.heap.size) (hm : w.cell? ⟨Bm, 0, none⟩ = some (.map (some b))) (hM : MapG w b nn S) :
    Calls Try.prog 107 #[.func (.func 140) #[] #[.pointer (some ⟨Bm, 0, none⟩)], .func (.func 109) #[] #[]] w fun e w' =>
      ∃ (v : Value) (ss Q : List A6), e = .returned v ∧ gives6 nn S ss ∧ Q.Perm ss ∧ (∀ (i j : Nat) (x y : A6), i < j → Q[i]? = some x → Q[j]? = some y → ¬ lex6 y x) ∧ OwnA6 w' w.heap.size v Q ∧ Below w.heap.size w w' := by
  have hc := Lib.hid (collect_keys Bm b nn S hnn w hBm hm hM)
  clear hm hM
  go_enter Try.func107, Try.ntmps107
  go_wp2_with fail
  refine hc.out.mono ?_
  rintro e w1 ⟨v, ss, rfl, h1, h2, h3⟩
  have HS := Lib.hid h1
  have HO := Lib.hid h2
  have HB := Lib.hid h3
  clear h1 h2 h3
  rcases HO.out.2 with ⟨rfl, h0⟩ | ⟨g, cap, cur, rfl, hr⟩
  · have h0 : ss = [] := List.eq_nil_of_length_eq_zero h0
    subst h0
    have hn := Lib.hid (fun fv w => sort_none fv w)
    go_wp2_with fail
    refine (hn.out _ _).mono ?_
    rintro e w2 ⟨rfl, rfl⟩
    go_wp2_with fail
    go_ret
    exact ⟨_, [], [], rfl, HS.out, .refl _, by simp, HO.out, HB.out⟩
  · clear hr
    obtain ⟨k, hk⟩ : ∃ k, ss.length = k := ⟨_, rfl⟩
    have HK := Lib.hid hk
    have hkl : k ≤ 1000000000 := by rw [← hk]; exact Nat.le_trans HS.out.2.2.1 (by omega)
    rw [hk] at HO ⊢
    have hn := Lib.hid (sort_ghosts ss g k cap w.heap.size w1 HK.out hkl HO.out)
    clear hk
    go_wp2_with fail
    refine hn.out.mono ?_
    rintro e w2 ⟨rfl, Q, hp, hq, hs, ho, hg⟩
    have HQ := Lib.hid ho
    have HB2 := Lib.hid (Below.grown HB.out hg HB.out.size (fun q e => by injection e with e; exact (World.ownsRow.lt HO.out q (by simp [Value.ownBlock, e])).1))
    have HP := Lib.hid hp
    have HSo := Lib.hid hs
    clear hp hq hs ho hg hn
    go_wp2_with fail
    go_ret
    exact ⟨_, ss, Q, rfl, HS.out, HP.out, HSo.out, HQ.out, HB2.out⟩
end Go.Proofs.Ytjmlefcmhjodeaa.others

/- pairsWithout: the pairs that have none of the places that are used. -/
namespace Go.Proofs.Ytjmlefcmhjodeaa.others
open Go.RowKit
open cards reg
set_option linter.unusedVariables false

/-- Has a pair none of these places? -/
def freeP (u : List Int) (p : A2) : Bool := !decide (p.a ∈ u) && !decide (p.b ∈ u)
theorem freeP_a {u : List Int} {p : A2} (h : p.a ∈ u) : freeP u p = false := by unfold freeP; simp [h]
theorem freeP_b {u : List Int} {p : A2} (h : p.b ∈ u) : freeP u p = false := by unfold freeP; simp [h]
theorem freeP_y {u : List Int} {p : A2} (h1 : ¬ p.a ∈ u) (h2 : ¬ p.b ∈ u) : freeP u p = true := by unfold freeP; simp [h1, h2]
theorem freeP_iff {u : List Int} {p : A2} : freeP u p = true ↔ ¬ p.a ∈ u ∧ ¬ p.b ∈ u := by unfold freeP; simp
theorem filt_step {α : Type} {f : α → Bool} {l : List α} {k : Nat} {x : α} (h : l[k]? = some x) : (l.take (k + 1)).filter f = (l.take k).filter f ++ (if f x = true then [x] else []) := by
  rw [take_snoc h, List.filter_append]
  cases hf : f x <;> simp [hf]

theorem at_0 (a : A2) (w : World) : (Instr.index 79 (.agg #[.int .i64 a.a, .int .i64 a.b]) (.int .i64 0)).run Try.prog w = .ok (.int .i64 a.a) w := by kernel_rfl
theorem at_1 (a : A2) (w : World) : (Instr.index 79 (.agg #[.int .i64 a.a, .int .i64 a.b]) (.int .i64 1)).run Try.prog w = .ok (.int .i64 a.b) w := by kernel_rfl
set_option maxRecDepth 100000 in
set_option maxHeartbeats 4000000 in
theorem pairs_without (l : List A2) (u : List Int) (p pu : Option Addr) (n cp m cu : Nat) (w : World) (hn : l.length = n) (hl : n ≤ 1000000) (hr : Rd w p (A2.flat l)) (hm : u.length = m) (hlm : m ≤ 100) (hru : Rd w pu (ints u)) :
    Calls Try.prog 106 #[.slice p n cp, .slice pu m cu] w fun e w' => ∃ v, e = .returned v ∧ OwnA2 w' w.heap.size v (l.filter (freeP u)) ∧ Below w.heap.size w w' := by
  have HN := Lib.hid hn
  have HR0 := Lib.hid hr
  have HU0 := Lib.hid hru
  have HC := Lib.hid (fun c w h => deal.contains_int u c pu m cu w hm (by omega) h)
  clear hn hr hm hru
  go_enter Try.func106, Try.ntmps106
  go_wp2_with fail
  go_step3
  go_wp2_with fail
  go_step3
  go_wp2_with fail
  go_loopw [5, 7, 9, 13] (fun o _ _ i wr => ∃ k : Nat, k ≤ n ∧ i = .int .i64 k ∧ Hid (OwnA2 wr w.heap.size o ((l.take k).filter (freeP u))) ∧ Hid (Below w.heap.size w wr)) (fun _ _ _ i _ => n - (intOf i).toNat)
  case atStart => exact ⟨0, Nat.zero_le _, rfl, OwnA2.empty w w.heap.size (Nat.le_refl _), Lib.hid (by repeat (first | with_reducible exact Below.refl _ _ | with_reducible exact HB.out | with_reducible apply Below.drew | with_reducible apply bdN | with_reducible refine Below.alloc ?_ (by first | exact Nat.le_refl _ | with_reducible exact HB.out.size | omega | (simp; done) | (simp; omega) | (have := HB.out.size; simp at *; omega)) _ | with_reducible refine Below.setCell ?_ (by first | exact Nat.le_refl _ | with_reducible exact HB.out.size | omega | (simp; done) | (simp; omega) | (have := HB.out.size; simp at *; omega)) _))⟩
  case round =>
    obtain ⟨k, hk, rfl, HO, HB⟩ := hrel
    have m0 : (0 : Int) ≤ (k : Int) := by omega
    by_cases hlt : k < n
    · have m1 : (k : Int) < (n : Int) := by omega
      obtain ⟨bu, ou, a, rfl, hbu, ha, c0, c1⟩ := (HR0.out.below HB.out).aA2 (k := k) (by rw [HN.out]; exact hlt)
      have HF := Lib.hid (filt_step (f := freeP u) ha)
      have HLn := Lib.hid (show ((l.take k).filter (freeP u)).length ≤ 1000000000 from Nat.le_trans (List.length_filter_le _ _) (by rw [List.length_take]; omega))
      clear ha
      go_upto_region 5 with fail
      have K7 : Hid (VB (wr.alloc a.obj) wr.heap.size 79 #[.int .i64 a.a, .int .i64 a.b]) := Lib.hid (VB.newAt rfl rfl)
      have b : Below wr.heap.size wr (wr.alloc a.obj) := (Below.refl _ _).alloc (Nat.le_refl _) _
      have HA7 := Lib.hid (fun q hq => Nat.ne_of_lt (OwnA2.span HO.out q hq).2)
      clear c0 c1
      generalize wr.alloc a.obj = w4 at *
      have Sw4 := Lib.hid b.size
      have HB := Lib.hid (chain0 (w := w) (by repeat (first | with_reducible exact Below.refl _ _ | with_reducible exact HB.out | with_reducible apply Below.drew | with_reducible apply bdN | with_reducible refine Below.alloc ?_ (by first | exact Nat.le_refl _ | with_reducible exact HB.out.size | omega | (simp; done) | (simp; omega) | (have := HB.out.size; simp at *; omega)) _ | with_reducible refine Below.setCell ?_ (by first | exact Nat.le_refl _ | with_reducible exact HB.out.size | omega | (simp; done) | (simp; omega) | (have := HB.out.size; simp at *; omega)) _)) b)
      have HO := Lib.hid (OwnA2.below (by repeat (first | with_reducible exact HO.out | with_reducible apply OwnA2.drewN | with_reducible apply OwnA2.drew | with_reducible apply OwnA2.alloc)) b)
      clear b
      obtain ⟨g7, hg7⟩ : ∃ g7, wr.heap.size = g7 := ⟨_, rfl⟩
      rw [hg7] at K7 HA7
      try rw [hg7]
      clear hg7
      have e0 := VB.at_ K7.out (j := 0) rfl
      have e1 := VB.at_ K7.out (j := 1) rfl
      go_upto_region 6 with fail
      clear e0 e1
      go_loopw [9, 18] (fun _ i wr => ∃ t : Int, i = .int .i64 t ∧ (t = 0 ∨ (t = 1 ∧ ¬ a.a ∈ u) ∨ (t = 2 ∧ ¬ a.a ∈ u ∧ ¬ a.b ∈ u)) ∧ Hid (OwnA2 wr w.heap.size u5 ((l.take k).filter (freeP u))) ∧ Hid (VB wr g7 79 #[.int .i64 a.a, .int .i64 a.b]) ∧ Hid (Below w.heap.size w wr)) (fun _ i _ => 2 - (intOf i).toNat)
      case atStart => exact ⟨0, rfl, .inl rfl, HO, K7, HB⟩
      case round =>
        clear HO K7 HB
        obtain ⟨t, rfl, ht, HO, K7, HB⟩ := hrel
        rcases ht with rfl | ⟨rfl, h1⟩ | ⟨rfl, h1, h2⟩
        · have m2 := m1
          by_cases hm : a.a ∈ u
          · have HD := Lib.hid (show decide (a.a ∈ u) = true from decide_eq_true hm)
            have HCa := Lib.hid (fun w h => by have := HC.out a.a w h; rw [HD.out] at this; exact this)
            rw [freeP_a hm] at HF
            clear hm
            go_wp2_with (rw [at_0])
            go_wp2_with fail
            refine ((HCa.out _ (HU0.out.below HB.out))).mono ?_
            rintro e w5 ⟨rfl, b⟩
            have Sw5 := Lib.hid b.size
            have HB := Lib.hid (chain0 (w := w) (by repeat (first | with_reducible exact Below.refl _ _ | with_reducible exact HB.out | with_reducible apply Below.drew | with_reducible apply bdN | with_reducible refine Below.alloc ?_ (by first | exact Nat.le_refl _ | with_reducible exact HB.out.size | omega | (simp; done) | (simp; omega) | (have := HB.out.size; simp at *; omega)) _ | with_reducible refine Below.setCell ?_ (by first | exact Nat.le_refl _ | with_reducible exact HB.out.size | omega | (simp; done) | (simp; omega) | (have := HB.out.size; simp at *; omega)) _)) b)
            have HO := Lib.hid (OwnA2.below (by repeat (first | with_reducible exact HO.out | with_reducible apply OwnA2.drewN | with_reducible apply OwnA2.drew | with_reducible apply OwnA2.alloc)) b)
            have K7 := Lib.hid (VB.below (by repeat (first | with_reducible exact K7.out | with_reducible apply VB.drewN | with_reducible apply VB.drew | with_reducible apply VB.alloc)) b)
            clear b
            go_wp2_with fail
            go_roundw
            case rel => exact ⟨k + 1, by omega, by go_num, by rw [HF.out]; simpa using HO, HB⟩
            case measure => simp [intOf]; omega
          · have HD := Lib.hid (show decide (a.a ∈ u) = false from decide_eq_false hm)
            have HCa := Lib.hid (fun w h => by have := HC.out a.a w h; rw [HD.out] at this; exact this)
            have HMa := Lib.hid hm
            clear hm
            go_wp2_with (rw [at_0])
            go_wp2_with fail
            refine ((HCa.out _ (HU0.out.below HB.out))).mono ?_
            rintro e w5 ⟨rfl, b⟩
            have Sw5 := Lib.hid b.size
            have HB := Lib.hid (chain0 (w := w) (by repeat (first | with_reducible exact Below.refl _ _ | with_reducible exact HB.out | with_reducible apply Below.drew | with_reducible apply bdN | with_reducible refine Below.alloc ?_ (by first | exact Nat.le_refl _ | with_reducible exact HB.out.size | omega | (simp; done) | (simp; omega) | (have := HB.out.size; simp at *; omega)) _ | with_reducible refine Below.setCell ?_ (by first | exact Nat.le_refl _ | with_reducible exact HB.out.size | omega | (simp; done) | (simp; omega) | (have := HB.out.size; simp at *; omega)) _)) b)
            have HO := Lib.hid (OwnA2.below (by repeat (first | with_reducible exact HO.out | with_reducible apply OwnA2.drewN | with_reducible apply OwnA2.drew | with_reducible apply OwnA2.alloc)) b)
            have K7 := Lib.hid (VB.below (by repeat (first | with_reducible exact K7.out | with_reducible apply VB.drewN | with_reducible apply VB.drew | with_reducible apply VB.alloc)) b)
            clear b
            go_wp2_with fail
            go_roundw
            case rel => exact ⟨1, rfl, .inr (.inl ⟨rfl, HMa.out⟩), HO, K7, HB⟩
            case measure => simp [intOf]
        · have HMa := Lib.hid h1
          clear h1
          by_cases hm : a.b ∈ u
          · have HD := Lib.hid (show decide (a.b ∈ u) = true from decide_eq_true hm)
            have HCa := Lib.hid (fun w h => by have := HC.out a.b w h; rw [HD.out] at this; exact this)
            rw [freeP_b hm] at HF
            clear hm
            go_wp2_with (rw [at_1])
            go_wp2_with fail
            refine ((HCa.out _ (HU0.out.below HB.out))).mono ?_
            rintro e w5 ⟨rfl, b⟩
            have Sw5 := Lib.hid b.size
            have HB := Lib.hid (chain0 (w := w) (by repeat (first | with_reducible exact Below.refl _ _ | with_reducible exact HB.out | with_reducible apply Below.drew | with_reducible apply bdN | with_reducible refine Below.alloc ?_ (by first | exact Nat.le_refl _ | with_reducible exact HB.out.size | omega | (simp; done) | (simp; omega) | (have := HB.out.size; simp at *; omega)) _ | with_reducible refine Below.setCell ?_ (by first | exact Nat.le_refl _ | with_reducible exact HB.out.size | omega | (simp; done) | (simp; omega) | (have := HB.out.size; simp at *; omega)) _)) b)
            have HO := Lib.hid (OwnA2.below (by repeat (first | with_reducible exact HO.out | with_reducible apply OwnA2.drewN | with_reducible apply OwnA2.drew | with_reducible apply OwnA2.alloc)) b)
            have K7 := Lib.hid (VB.below (by repeat (first | with_reducible exact K7.out | with_reducible apply VB.drewN | with_reducible apply VB.drew | with_reducible apply VB.alloc)) b)
            clear b
            go_wp2_with fail
            go_roundw
            case rel => exact ⟨k + 1, by omega, by go_num, by rw [HF.out]; simpa using HO, HB⟩
            case measure => simp [intOf]; omega
          · have HD := Lib.hid (show decide (a.b ∈ u) = false from decide_eq_false hm)
            have HCa := Lib.hid (fun w h => by have := HC.out a.b w h; rw [HD.out] at this; exact this)
            have HMb := Lib.hid hm
            clear hm
            go_wp2_with (rw [at_1])
            go_wp2_with fail
            refine ((HCa.out _ (HU0.out.below HB.out))).mono ?_
            rintro e w5 ⟨rfl, b⟩
            have Sw5 := Lib.hid b.size
            have HB := Lib.hid (chain0 (w := w) (by repeat (first | with_reducible exact Below.refl _ _ | with_reducible exact HB.out | with_reducible apply Below.drew | with_reducible apply bdN | with_reducible refine Below.alloc ?_ (by first | exact Nat.le_refl _ | with_reducible exact HB.out.size | omega | (simp; done) | (simp; omega) | (have := HB.out.size; simp at *; omega)) _ | with_reducible refine Below.setCell ?_ (by first | exact Nat.le_refl _ | with_reducible exact HB.out.size | omega | (simp; done) | (simp; omega) | (have := HB.out.size; simp at *; omega)) _)) b)
            have HO := Lib.hid (OwnA2.below (by repeat (first | with_reducible exact HO.out | with_reducible apply OwnA2.drewN | with_reducible apply OwnA2.drew | with_reducible apply OwnA2.alloc)) b)
            have K7 := Lib.hid (VB.below (by repeat (first | with_reducible exact K7.out | with_reducible apply VB.drewN | with_reducible apply VB.drew | with_reducible apply VB.alloc)) b)
            clear b
            go_wp2_with fail
            go_roundw
            case rel => exact ⟨2, rfl, .inr (.inr ⟨rfl, HMa.out, HMb.out⟩), HO, K7, HB⟩
            case measure => simp [intOf]
        · have HMa := Lib.hid h1
          have HMb := Lib.hid h2
          rw [freeP_y HMa.out HMb.out, if_pos rfl] at HF
          clear h1 h2
          have e0 := VB.at_ K7.out (j := 0) rfl
          have e1 := VB.at_ K7.out (j := 1) rfl
          go_wp2_with (at_builtin; refine append_A2 rfl (.tmp 25) (.tmp 27) rfl w.heap.size _ ((l.take k).filter (freeP u)) a _ _ rfl rfl rfl HO.out HLn.out HB.out.size ?_; intro v1 w4 hO1 hB1)
          rw [← HF.out] at hO1
          go_roundw
          case rel => exact ⟨k + 1, by omega, by go_num, hO1, HB.out.trans hB1⟩
          case measure => simp [intOf]; omega
    · obtain rfl : k = n := by omega
      have HF : Hid (l.take k = l) := Lib.hid (by rw [← HN.out, List.take_length])
      rw [HF.out] at HO
      go_wp2_with fail
      (try rw [Exit.noGoto_ret])
      show bodyPost _ _ _ _ _ _
      go_ret
      exact ⟨_, rfl, HO.out, HB.out⟩
end Go.Proofs.Ytjmlefcmhjodeaa.others

/- The ghosts that the program finds: mathematics. -/
namespace Go.Proofs.Ytjmlefcmhjodeaa.others
open Go.RowKit
open cards
set_option linter.unusedVariables false

/-- The ghosts found from two pairs. -/
def tG (l : List Cd) (P : List A2) (p q : A2) : List A6 := if same (th l p) (th l q) = true then [] else ((by3 l P (third (th l p) (th l q))).filter (freeP [p.a, p.b, q.a, q.b])).map fun r => srt6 (p6 p q r)
def sG (l : List Cd) (P : List A2) (i : Nat) (p : A2) : List A6 := ((P.take i).filter (freeP [p.a, p.b])).flatMap (tG l P p)
/-- All that the program finds with the first k pairs. -/
def allS (l : List Cd) (P : List A2) : Nat → List A6
  | 0 => []
  | k + 1 => allS l P k ++ (match P[k]? with
    | some p => sG l P k p
    | none => [])
theorem allS_step {l : List Cd} {P : List A2} {k : Nat} {p : A2} (h : P[k]? = some p) : allS l P (k + 1) = allS l P k ++ sG l P k p := by
  rw [allS, h]
theorem allS_mem {l : List Cd} {P : List A2} {g : A6} : ∀ {k : Nat}, g ∈ allS l P k ↔ ∃ i p, i < k ∧ P[i]? = some p ∧ g ∈ sG l P i p
  | 0 => by simp [allS]
  | k + 1 => by
    rw [allS, List.mem_append, allS_mem (k := k)]
    constructor
    · rintro (⟨i, p, h1, h2⟩ | h)
      · exact ⟨i, p, by omega, h2⟩
      · cases hp : P[k]? with
        | none => rw [hp] at h; simp at h
        | some p => rw [hp] at h; exact ⟨k, p, by omega, hp, h⟩
    · rintro ⟨i, p, h1, h2, h3⟩
      rcases Nat.lt_or_ge i k with h | h
      · exact .inl ⟨i, p, h, h2, h3⟩
      · obtain rfl : i = k := by omega
        right; rw [h2]; exact h3
theorem flat_bd2 {α β : Type} {f : α → List β} {k : Nat} (hf : ∀ c, (f c).length ≤ k) : ∀ S : List α, (S.flatMap f).length ≤ S.length * k
  | [] => by simp
  | c :: r => by
    have := flat_bd2 hf r
    have := hf c
    simp only [List.flatMap_cons, List.length_append, List.length_cons, Nat.succ_mul]; omega
theorem tG_len (l : List Cd) (P : List A2) (p q : A2) : (tG l P p q).length ≤ P.length := by
  unfold tG
  split
  · simp
  · rw [List.length_map]
    exact Nat.le_trans (List.length_filter_le _ _) (List.length_filter_le _ _)
theorem sG_len (l : List Cd) (P : List A2) (i : Nat) (p : A2) : (sG l P i p).length ≤ P.length * P.length := by
  unfold sG
  exact Nat.le_trans (flat_bd2 (fun q => tG_len l P p q) _) (Nat.mul_le_mul_right _ (Nat.le_trans (List.length_filter_le _ _) (by rw [List.length_take]; omega)))
theorem allS_len (l : List Cd) (P : List A2) : ∀ k : Nat, (allS l P k).length ≤ k * (P.length * P.length)
  | 0 => by simp [allS]
  | k + 1 => by
    have := allS_len l P k
    rw [allS, List.length_append, Nat.succ_mul]
    cases hp : P[k]? with
    | none => simp; omega
    | some p => have := sG_len l P k p; simp only; omega
theorem f6_inj {x y : A6} (h : f6 x = f6 y) : x = y := by
  obtain ⟨a, b, c, d, e, f⟩ := x
  obtain ⟨a', b', c', d', e', f'⟩ := y
  simp [f6] at h
  obtain ⟨rfl, rfl, rfl, rfl, rfl, rfl⟩ := h
  rfl
section
variable {l : List Cd} (hs : sorted l) (hok : l.all Cd.ok = true)
include hs hok
omit hs hok in
theorem tG_ok {p q : A2} {g : A6} (hp : p ∈ pAll l.length) (hq : q ∈ pAll l.length) (hf : freeP [p.a, p.b] q = true) (h : g ∈ tG l (pAll l.length) p q) : gOK l g := by
  unfold tG at h
  split at h
  · simp at h
  · obtain ⟨r, hr, rfl⟩ := List.mem_map.1 h
    obtain ⟨hr, hr2⟩ := List.mem_filter.1 hr
    unfold by3 at hr
    obtain ⟨hr, hr3⟩ := List.mem_filter.1 hr
    have hth := same_iff.1 hr3
    have h1 := freeP_iff.1 hf
    have h2 := freeP_iff.1 hr2
    obtain ⟨a, b, ab1, ab2, e1⟩ := pAll_mem.1 hp
    obtain ⟨c, d, cd1, cd2, e2⟩ := pAll_mem.1 hq
    obtain ⟨e, f, ef1, ef2, e3⟩ := pAll_mem.1 hr
    refine prog_ok hp hq hr hth ?_ (srt6_perm rfl) (srt6_asc rfl)
    subst e1; subst e2; subst e3
    simp at h1 h2
    unfold p6
    simp
    omega
theorem allS_ok {g : A6} : g ∈ allS l (pAll l.length) (pAll l.length).length ↔ gOK l g := by
  rw [allS_mem]
  constructor
  · rintro ⟨i, p, hi, hp, hg⟩
    unfold sG at hg
    obtain ⟨q, hq, hg⟩ := List.mem_flatMap.1 hg
    obtain ⟨hq, hf⟩ := List.mem_filter.1 hq
    exact tG_ok (List.mem_of_getElem? hp) (List.mem_of_mem_take hq) hf hg
  · intro h
    obtain ⟨p, q, r, hp, hq, hr, hlt, hne, hth, hnd, hperm, hasc⟩ := ok_prog hs hok h
    obtain ⟨i, hi, hpi⟩ := List.getElem_of_mem hp
    obtain ⟨j, hj, hqj⟩ := List.getElem_of_mem hq
    have hpw := List.pairwise_iff_getElem.1 (pAll_lt l.length)
    have hji : j < i := by
      rcases Nat.lt_trichotomy j i with h | h | h
      · exact h
      · subst h
        rw [hpi] at hqj; subst hqj
        unfold pLt at hlt; omega
      · have := hpw i j hi hj h
        rw [hpi, hqj] at this
        unfold pLt at hlt this; omega
    refine ⟨i, p, hi, by rw [List.getElem?_eq_getElem hi, hpi], ?_⟩
    unfold sG
    obtain ⟨a, b, ab1, ab2, e1⟩ := pAll_mem.1 hp
    obtain ⟨c, d, cd1, cd2, e2⟩ := pAll_mem.1 hq
    obtain ⟨e, f, ef1, ef2, e3⟩ := pAll_mem.1 hr
    refine List.mem_flatMap.2 ⟨q, List.mem_filter.2 ⟨?_, ?_⟩, ?_⟩
    · rw [← hqj]
      exact List.mem_of_getElem? (i := j) (by rw [List.getElem?_take_of_lt hji, List.getElem?_eq_getElem hj])
    · rw [freeP_iff]
      unfold p6 at hnd
      simp at hnd ⊢
      omega
    · unfold tG
      rw [hne, if_neg (by simp)]
      refine List.mem_map.2 ⟨r, List.mem_filter.2 ⟨List.mem_filter.2 ⟨hr, same_iff.2 hth⟩, ?_⟩, ?_⟩
      · rw [freeP_iff]
        unfold p6 at hnd
        simp at hnd ⊢
        omega
      · exact f6_inj (le_perm6 (srt6_asc rfl) hasc ((srt6_perm rfl).trans hperm.symm))
end
theorem gOK_sm {l : List Cd} (hl : l.length ≤ 1000) {g : A6} (h : gOK l g) : sm6 g := by
  obtain ⟨i0, i1, i2, i3, i4, i5, x0, x1, x2, x3, x4, x5, h01, h12, h23, h34, h45, h5, rfl, _⟩ := h
  unfold sm6
  simp only
  omega
end Go.Proofs.Ytjmlefcmhjodeaa.others

/- A region that draws its order, with TWO new blocks among its operations: one walk serves all its orders. What stores stand at its end, one behind the other. -/
namespace Go.Proofs.Ytjmlefcmhjodeaa.cards
open Go.RowKit
open reg
set_option linter.unusedVariables false

section
variable {P : Program} {md : Region.Mode} {ops : Array Oper} {Q : Exit → Act → World → Prop}

def putO (a : Act) (d : Tmp) : Option Nat → Act
  | none => a
  | some g => a.put (some d) (ptr g)
/-- The activation, whichever of the two blocks are made. -/
def putT (a : Act) (d0 d1 : Tmp) (m0 m1 : Option Nat) : Act := putO (putO a d0 m0) d1 m1
theorem putO_put {a : Act} {d : Tmp} {m : Option Nat} {y : Option Tmp} {v : Value} (h : y ≠ some d) : (putO a d m).put y v = putO (a.put y v) d m := by
  cases m with
  | none => rfl
  | some g => exact Act.put_comm a (x := some d) (y := y) (ptr g) v (fun e he => by cases he; exact h)
theorem putT_put {a : Act} {d0 d1 : Tmp} {m0 m1 : Option Nat} {y : Option Tmp} {v : Value} (h0 : y ≠ some d0) (h1 : y ≠ some d1) : (putT a d0 d1 m0 m1).put y v = putT (a.put y v) d0 d1 m0 m1 := by
  unfold putT
  rw [putO_put h1, putO_put h0]
theorem exec_putO {o : Oper} (hs : ∀ cs b, o.op ≠ .select cs b) {a : Act} {d : Tmp} {m : Option Nat} (h : d ∉ o.looksAt ops) : execOp (putO a d m).eval o = execOp a.eval o := by
  cases m with
  | none => rfl
  | some g => exact execOp_put (ops := ops) o hs a (some d) (ptr g) (fun e he => by cases he; exact h)
theorem exec_putT {o : Oper} (hs : ∀ cs b, o.op ≠ .select cs b) {a : Act} {d0 d1 : Tmp} {m0 m1 : Option Nat} (h0 : d0 ∉ o.looksAt ops) (h1 : d1 ∉ o.looksAt ops) : execOp (putT a d0 d1 m0 m1).eval o = execOp a.eval o := by
  unfold putT
  rw [exec_putO hs h1, exec_putO hs h0]
theorem wanted_putO (o : Oper) {a : Act} {d : Tmp} {m : Option Nat} (h : d ∉ o.looksAt ops) : Region.wanted o (yielded ops (putO a d m).tmps) = Region.wanted o (yielded ops a.tmps) := by
  cases m with
  | none => rfl
  | some g => exact wanted_put o a (some d) (ptr g) (fun e he => by cases he; exact h)
theorem wanted_putT (o : Oper) {a : Act} {d0 d1 : Tmp} {m0 m1 : Option Nat} (h0 : d0 ∉ o.looksAt ops) (h1 : d1 ∉ o.looksAt ops) : Region.wanted o (yielded ops (putT a d0 d1 m0 m1).tmps) = Region.wanted o (yielded ops a.tmps) := by
  unfold putT
  rw [wanted_putO o h1, wanted_putO o h0]
/-- An operation that looks at neither slot and sets neither. -/
def farAt (ops : Array Oper) (d0 d1 : Tmp) (i : Nat) : Bool := match ops[i]? with
  | some o => !(o.looksAt ops).contains d0 && !(o.looksAt ops).contains d1 && o.dst != some d0 && o.dst != some d1
  | none => false
theorem farAt_spec {d0 d1 : Tmp} {i : Nat} {o : Oper} (h : farAt ops d0 d1 i = true) (ho : ops[i]? = some o) : d0 ∉ o.looksAt ops ∧ d1 ∉ o.looksAt ops ∧ o.dst ≠ some d0 ∧ o.dst ≠ some d1 := by
  unfold farAt at h
  rw [ho] at h
  simp only [Bool.and_eq_true, Bool.not_eq_true', bne_iff_ne] at h
  obtain ⟨⟨⟨h1, h2⟩, h3⟩, h4⟩ := h
  exact ⟨(fun hm => by rw [List.contains_iff_mem.2 hm] at h1; cases h1), (fun hm => by rw [List.contains_iff_mem.2 hm] at h2; cases h2), h3, h4⟩
def seqS (md : Region.Mode) (ops : Array Oper) : List Nat → Array Bool → Bool
  | [], l => Region.ready md ops l == []
  | j :: r, l => (Region.ready md ops l == [j]) && seqS md ops r (l.setIfInBounds j true)
/-- What comes at the end, one behind the other. -/
def runsS (P : Program) (ops : Array Oper) (S : World → Prop) (K : Act → World → Prop) : List Nat → Act → World → Prop
  | [], a, w => K a w
  | j :: r, a, w => ∃ o w' v, ops[j]? = some o ∧ o.guard = none ∧ ((execOp a.eval o).run P w = .ok (.value v) w' ∨ ((execOp a.eval o).run P w = .ok .skip w' ∧ v = undef)) ∧ S w' ∧ runsS P ops S K r (a.put o.dst v) w'
theorem seq_of {S : World → Prop} : ∀ (st : List Nat) (l : Array Bool) (a : Act) (w : World), seqS md ops st l = true → S w → runsS P ops S (Q .normal) st a w → wpAnyH P md ops Q S st.length l a w
  | [], l, a, w, hok, hS, h => wpAnyH_done (by simpa [seqS] using hok) h 0
  | j :: r, l, a, w, hok, hS, h => by
    simp only [seqS, Bool.and_eq_true, beq_iff_eq] at hok
    obtain ⟨o, w', v, ho, hg, hrun, hS', hr⟩ := h
    refine wpAnyH_all hok.1 (by simp) fun i hi => ?_
    obtain rfl : i = j := by simpa using hi
    unfold wpOp
    simp only [ho, wanted_of hg, if_true]
    refine .inl ?_
    unfold Oper.wp
    rcases hrun with hrun | ⟨hrun, rfl⟩
    · rw [hrun]; exact ⟨hS', seq_of r _ _ _ hok.2 hS' hr⟩
    · rw [hrun]; exact ⟨hS', seq_of r _ _ _ hok.2 hS' hr⟩
def okT (md : Region.Mode) (ops : Array Oper) (i0 i1 : Nat) (d0 d1 : Tmp) (st : List Nat) : Nat → Bool → Bool → List (Bool × Nat) → Array Bool → Bool
  | 0, p0, p1, [], l => !p0 && !p1 && seqS md ops st l
  | 0, _, _, _ :: _, _ => false
  | n + 1, p0, p1, [], l => (Region.ready md ops l != []) && (Region.ready md ops l).all (fun j => (p0 && j == i0) || (p1 && j == i1)) && (!p0 || okT md ops i0 i1 d0 d1 st n false p1 [] (l.setIfInBounds i0 true)) && (!p1 || okT md ops i0 i1 d0 d1 st n p0 false [] (l.setIfInBounds i1 true))
  | n + 1, p0, p1, (true, i) :: r, l => Region.free md ops l i && (Region.ready md ops l).contains i && farAt ops d0 d1 i && okT md ops i0 i1 d0 d1 st n p0 p1 r (l.setIfInBounds i true)
  | n + 1, p0, p1, (false, i) :: r, l => (Region.ready md ops l != []) && (Region.ready md ops l).all (fun j => (j == i) || ((p0 && j == i0) || (p1 && j == i1))) && farAt ops d0 d1 i && okT md ops i0 i1 d0 d1 st n p0 p1 r (l.setIfInBounds i true) && (!p0 || okT md ops i0 i1 d0 d1 st n false p1 ((false, i) :: r) (l.setIfInBounds i0 true)) && (!p1 || okT md ops i0 i1 d0 d1 st n p0 false ((false, i) :: r) (l.setIfInBounds i1 true))
/-- The blocks that are made. -/
def madeO (n0 : Nat) (obj : Obj) (w : World) : Option Nat → Prop
  | none => True
  | some g => n0 ≤ g ∧ w.heap[g]? = some obj
theorem madeO_below {n0 : Nat} {obj : Obj} {w w1 : World} {m : Option Nat} (h : madeO n0 obj w m) (b : Below w.heap.size w w1) : madeO n0 obj w1 m := by
  cases m with
  | none => trivial
  | some g => exact ⟨h.1, (b.block g (Array.getElem?_eq_some_iff.1 h.2).1).trans h.2⟩
def apartO : Option Nat → Option Nat → Prop
  | some g, some k => g ≠ k
  | _, _ => True
/-- What is known holds also with each of the new blocks. -/
structure Clo2 (n0 : Nat) (ob0 ob1 : Obj) (S I : World → Prop) : Prop where
  held : ∀ w, I w → S w
  big : ∀ w, I w → n0 ≤ w.heap.size
  grow0 : ∀ w, I w → I (w.alloc ob0)
  grow1 : ∀ w, I w → I (w.alloc ob1)
def chainT (P : Program) (ops : Array Oper) (S : World → Prop) (n0 : Nat) (ob0 ob1 : Obj) (fin : Act → (World → Prop) → Prop) : List (Bool × Nat) → Act → (World → Prop) → Prop
  | [], a, I => fin a I
  | (true, i) :: r, a, I => ∃ o v, ops[i]? = some o ∧ YieldsIf P ops S o v a ∧ chainT P ops S n0 ob0 ob1 fin r (a.put o.dst v) I
  | (false, i) :: r, a, I => ∃ o, ops[i]? = some o ∧ o.guard = none ∧ ∀ w, I w → Upon P (fun v w' => Below w.heap.size w w' ∧ ∃ I', Clo2 n0 ob0 ob1 S I' ∧ I' w' ∧ chainT P ops S n0 ob0 ob1 fin r (a.put o.dst v) I') ((execOp a.eval o).run P w)

/-- The end: both blocks are made, the stores are to come. -/
def finT (P : Program) (ops : Array Oper) (S : World → Prop) (Q : Exit → Act → World → Prop) (n0 : Nat) (ob0 ob1 : Obj) (st : List Nat) (d0 d1 : Tmp) (b : Act) (I : World → Prop) : Prop :=
  ∀ w g0 g1, I w → n0 ≤ g0 → n0 ≤ g1 → g0 ≠ g1 → w.heap[g0]? = some ob0 → w.heap[g1]? = some ob1 → runsS P ops S (Q .normal) st ((b.put (some d0) (ptr g0)).put (some d1) (ptr g1)) w
variable {S : World → Prop} {n0 : Nat} {ob0 ob1 : Obj} {o0 o1 : Oper} {i0 i1 : Nat} {d0 d1 : Tmp} {st : List Nat}

theorem two_of (hsel : Region.noSelect ops = true) (hQ : ∀ c (d : Option Tmp) v a w, Q (.panic c) (a.put d v) w → Q (.panic c) a w) (hdd : d0 ≠ d1)
    (h0 : ops[i0]? = some o0) (hd0 : o0.dst = some d0) (hg0 : o0.guard = none) (hal0 : ∀ (a : Act) (w : World), (execOp a.eval o0).run P w = .ok (.value (ptr w.heap.size)) (w.alloc ob0))
    (h1 : ops[i1]? = some o1) (hd1 : o1.dst = some d1) (hg1 : o1.guard = none) (hal1 : ∀ (a : Act) (w : World), (execOp a.eval o1).run P w = .ok (.value (ptr w.heap.size)) (w.alloc ob1)) :
    ∀ (n : Nat) (r : List (Bool × Nat)) (m0 m1 : Option Nat) (l : Array Bool) (a : Act) (I : World → Prop) (w : World),
      okT md ops i0 i1 d0 d1 st n m0.isNone m1.isNone r l = true → Clo2 n0 ob0 ob1 S I → I w → madeO n0 ob0 w m0 → madeO n0 ob1 w m1 → apartO m0 m1 →
      chainT P ops S n0 ob0 ob1 (finT P ops S Q n0 ob0 ob1 st d0 d1) r a I →
      wpAnyH P md ops Q S (n + st.length) l (putT a d0 d1 m0 m1) w := by
  have step0 : ∀ (n : Nat) (r : List (Bool × Nat)) (m1 : Option Nat) (l : Array Bool) (a : Act) (I : World → Prop) (w : World), Clo2 n0 ob0 ob1 S I → I w → madeO n0 ob1 w m1 →
      (∀ w' m0, I w' → madeO n0 ob0 w' (some m0) → madeO n0 ob1 w' m1 → apartO (some m0) m1 → wpAnyH P md ops Q S (n + st.length) (l.setIfInBounds i0 true) (putT a d0 d1 (some m0) m1) w') →
      wpOp P ops Q i0 (fun a' w' => S w' ∧ wpAnyH P md ops Q S (n + st.length) (l.setIfInBounds i0 true) a' w') (putT a d0 d1 none m1) w := by
    intro n r m1 l a I w hc hI hm1 hk
    refine wpOp_upon (R := fun v w' => v = ptr w.heap.size ∧ w' = w.alloc ob0) h0 hg0 (by rw [hal0]; exact ⟨rfl, rfl⟩) ?_
    rintro v w' ⟨rfl, rfl⟩
    have hb : Below w.heap.size w (w.alloc ob0) := (Below.refl _ _).alloc (Nat.le_refl _) _
    have e : (putT a d0 d1 none m1).put o0.dst (ptr w.heap.size) = putT a d0 d1 (some w.heap.size) m1 := by
      rw [hd0]
      unfold putT
      rw [putO_put (by intro e; injection e with e; exact hdd e)]
      rfl
    rw [e]
    refine ⟨hc.held _ (hc.grow0 _ hI), hk _ _ (hc.grow0 _ hI) ⟨hc.big _ hI, heap_alloc_new _ _⟩ (madeO_below hm1 hb) ?_⟩
    cases m1 with
    | none => trivial
    | some g => exact fun e => by have := (Array.getElem?_eq_some_iff.1 hm1.2).1; omega
  have step1 : ∀ (n : Nat) (r : List (Bool × Nat)) (m0 : Option Nat) (l : Array Bool) (a : Act) (I : World → Prop) (w : World), Clo2 n0 ob0 ob1 S I → I w → madeO n0 ob0 w m0 →
      (∀ w' m1, I w' → madeO n0 ob0 w' m0 → madeO n0 ob1 w' (some m1) → apartO m0 (some m1) → wpAnyH P md ops Q S (n + st.length) (l.setIfInBounds i1 true) (putT a d0 d1 m0 (some m1)) w') →
      wpOp P ops Q i1 (fun a' w' => S w' ∧ wpAnyH P md ops Q S (n + st.length) (l.setIfInBounds i1 true) a' w') (putT a d0 d1 m0 none) w := by
    intro n r m0 l a I w hc hI hm0 hk
    refine wpOp_upon (R := fun v w' => v = ptr w.heap.size ∧ w' = w.alloc ob1) h1 hg1 (by rw [hal1]; exact ⟨rfl, rfl⟩) ?_
    rintro v w' ⟨rfl, rfl⟩
    have hb : Below w.heap.size w (w.alloc ob1) := (Below.refl _ _).alloc (Nat.le_refl _) _
    have e : (putT a d0 d1 m0 none).put o1.dst (ptr w.heap.size) = putT a d0 d1 m0 (some w.heap.size) := by
      rw [hd1]; rfl
    rw [e]
    refine ⟨hc.held _ (hc.grow1 _ hI), hk _ _ (hc.grow1 _ hI) (madeO_below hm0 hb) ⟨hc.big _ hI, heap_alloc_new _ _⟩ ?_⟩
    cases m0 with
    | none => trivial
    | some g => exact fun e => by have := (Array.getElem?_eq_some_iff.1 hm0.2).1; omega
  intro n
  induction n with
  | zero =>
    intro r m0 m1 l a I w hok hc hI hm0 hm1 hap h
    cases r with
    | cons x r => simp [okT] at hok
    | nil =>
      cases m0 with
      | none => simp [okT] at hok
      | some g0 =>
        cases m1 with
        | none => simp [okT] at hok
        | some g1 =>
          simp only [okT, Option.isNone_some, Bool.not_false, Bool.true_and] at hok
          rw [Nat.zero_add]
          exact seq_of st l _ w hok (hc.held _ hI) (h w g0 g1 hI hm0.1 hm1.1 hap hm0.2 hm1.2)
  | succ n ih =>
    intro r m0 m1 l a I w hok hc hI hm0 hm1 hap h
    rw [show n + 1 + st.length = (n + st.length) + 1 by omega]
    cases r with
    | nil =>
      simp only [okT, Bool.and_eq_true, bne_iff_ne, List.all_eq_true] at hok
      obtain ⟨⟨⟨k1, k2⟩, k3⟩, k4⟩ := hok
      refine wpAnyH_all rfl k1 fun j hj => ?_
      have hj := k2 j hj
      simp only [Bool.or_eq_true, Bool.and_eq_true, beq_iff_eq] at hj
      rcases hj with ⟨hp, rfl⟩ | ⟨hp, rfl⟩
      · cases m0 with
        | some g => simp at hp
        | none =>
          simp only [Option.isNone_none, Bool.not_true, Bool.false_or] at k3
          exact step0 n [] m1 l a I w hc hI hm1 (fun w' g hI' a1 a2 a3 => ih [] (some g) m1 _ a I w' (by simpa using k3) hc hI' a1 a2 a3 h)
      · cases m1 with
        | some g => simp at hp
        | none =>
          simp only [Option.isNone_none, Bool.not_true, Bool.false_or] at k4
          exact step1 n [] m0 l a I w hc hI hm0 (fun w' g hI' a1 a2 a3 => ih [] m0 (some g) _ a I w' (by simpa using k4) hc hI' a1 a2 a3 h)
    | cons x r =>
      obtain ⟨b, i⟩ := x
      cases b with
      | true =>
        simp only [okT, Bool.and_eq_true] at hok
        obtain ⟨⟨⟨k1, k2⟩, k3⟩, k4⟩ := hok
        obtain ⟨o, v, ho, hy, hr⟩ := h
        obtain ⟨f0, f1, f2, f3⟩ := farAt_spec k3 ho
        refine wpAnyH_take (v := v) ho hsel k1 k2 (fun c a w => hQ c _ _ a w) (hy.of_same (exec_putT (Region.noSelect_spec hsel i o · · ho) f0 f1) (wanted_putT o f0 f1)) (hc.held _ hI) ?_
        rw [putT_put f2 f3]
        exact ih r m0 m1 _ _ I w k4 hc hI hm0 hm1 hap hr
      | false =>
        simp only [okT, Bool.and_eq_true, bne_iff_ne, List.all_eq_true] at hok
        obtain ⟨⟨⟨⟨⟨k1, k2⟩, k3⟩, k4⟩, k5⟩, k6⟩ := hok
        have h' := h
        obtain ⟨o, ho, hgd, hr⟩ := h
        obtain ⟨f0, f1, f2, f3⟩ := farAt_spec k3 ho
        refine wpAnyH_all rfl k1 fun j hj => ?_
        have hj := k2 j hj
        simp only [Bool.or_eq_true, Bool.and_eq_true, beq_iff_eq] at hj
        rcases hj with rfl | ⟨hp, rfl⟩ | ⟨hp, rfl⟩
        · refine wpOp_upon (R := fun v w' => Below w.heap.size w w' ∧ ∃ I', Clo2 n0 ob0 ob1 S I' ∧ I' w' ∧ chainT P ops S n0 ob0 ob1 (finT P ops S Q n0 ob0 ob1 st d0 d1) r (a.put o.dst v) I') ho hgd (by rw [exec_putT (Region.noSelect_spec hsel _ o · · ho) f0 f1]; exact hr w hI) fun v w' ⟨hbw, I', hc', hI', hr'⟩ => ?_
          refine ⟨hc'.held _ hI', ?_⟩
          rw [putT_put f2 f3]
          exact ih r m0 m1 _ _ I' w' k4 hc' hI' (madeO_below hm0 hbw) (madeO_below hm1 hbw) hap hr'
        · cases m0 with
          | some g => simp at hp
          | none =>
            simp only [Option.isNone_none, Bool.not_true, Bool.false_or] at k5
            exact step0 n ((false, i) :: r) m1 l a I w hc hI hm1 (fun w' g hI' a1 a2 a3 => ih ((false, i) :: r) (some g) m1 _ a I w' (by simpa using k5) hc hI' a1 a2 a3 h')
        · cases m1 with
          | some g => simp at hp
          | none =>
            simp only [Option.isNone_none, Bool.not_true, Bool.false_or] at k6
            exact step1 n ((false, i) :: r) m0 l a I w hc hI hm0 (fun w' g hI' a1 a2 a3 => ih ((false, i) :: r) m0 (some g) _ a I w' (by simpa using k6) hc hI' a1 a2 a3 h')
/-- THE LAW of a region with two new blocks. -/
theorem region_two {id : Nat} {a : Act} {w : World} (r : List (Bool × Nat)) (i0 i1 d0 d1 : Nat) (st : List Nat) (o0 o1 : Oper) (ob0 ob1 : Obj) (n0 : Nat) (S I : World → Prop)
    (hm : P.follows .mixedOrders = true) (hok : okT .any ops i0 i1 d0 d1 st (r.length + 2) true true r (Array.replicate ops.size false) = true) (hlen : ops.size = r.length + 2 + st.length) (hsel : Region.noSelect ops = true) (hdd : d0 ≠ d1)
    (h0 : ops[i0]? = some o0) (hd0 : o0.dst = some d0) (hg0 : o0.guard = none) (hal0 : ∀ (a : Act) (w : World), (execOp a.eval o0).run P w = .ok (.value (ptr w.heap.size)) (w.alloc ob0))
    (h1 : ops[i1]? = some o1) (hd1 : o1.dst = some d1) (hg1 : o1.guard = none) (hal1 : ∀ (a : Act) (w : World), (execOp a.eval o1).run P w = .ok (.value (ptr w.heap.size)) (w.alloc ob1))
    (hc : Clo2 n0 ob0 ob1 S I) (hI : I w.drew)
    (h : chainT P ops S n0 ob0 ob1 (finT P ops S Q n0 ob0 ob1 st d0 d1) r a I) :
    (Code.region id ops true).wp P Q a w := by
  refine wp_region_noPanic (wp_region_held hm (S := S) ?_)
  have k := two_of (md := .any) (Q := NoPanic Q) (st := st) (i0 := i0) (i1 := i1) hsel (fun _ _ _ _ _ h => h) hdd h0 hd0 hg0 hal0 h1 hd1 hg1 hal1 (r.length + 2) r none none _ a I _ hok hc hI trivial trivial trivial ?_
  · rw [← hlen] at k; exact k
  · have mono : ∀ (st : List Nat) (a : Act) (w : World), runsS P ops S (Q .normal) st a w → runsS P ops S (NoPanic Q .normal) st a w := by
      intro st
      induction st with
      | nil => intro a w h; exact NoPanic.normal h
      | cons j st ih => rintro a w ⟨o, w', v, e1, e2, e3, e4, e5⟩; exact ⟨o, w', v, e1, e2, e3, e4, ih _ _ e5⟩
    have monoC : ∀ (r : List (Bool × Nat)) (a : Act) (I : World → Prop), chainT P ops S n0 ob0 ob1 (finT P ops S Q n0 ob0 ob1 st d0 d1) r a I →
        chainT P ops S n0 ob0 ob1 (finT P ops S (NoPanic Q) n0 ob0 ob1 st d0 d1) r a I := by
      intro r
      induction r with
      | nil => intro a I h w g0 g1 a1 a2 a3 a4 a5 a6; exact mono _ _ _ (h w g0 g1 a1 a2 a3 a4 a5 a6)
      | cons x r ih =>
        obtain ⟨b, i⟩ := x
        cases b with
        | true => rintro a I ⟨o, v, ho, hy, hr⟩; exact ⟨o, v, ho, hy, ih _ _ hr⟩
        | false =>
          rintro a I ⟨o, ho, hg, hr⟩
          refine ⟨o, ho, hg, fun w hw => ?_⟩
          have h := hr w hw
          generalize (execOp a.eval o).run P w = q at h ⊢
          cases q with
          | ok n w' =>
            cases n <;> simp only [Upon] at h ⊢
            case value v => obtain ⟨hb, I', c, j1, j2⟩ := h; exact ⟨hb, I', c, j1, ih _ _ j2⟩
            case enter f args => exact h.mono fun e w'' ⟨v, he, hb, I', c, j1, j2⟩ => ⟨v, he, hb, I', c, j1, ih _ _ j2⟩
          | halt x w' => simp only [Upon] at h
    exact monoC r a I h
end
end Go.Proofs.Ytjmlefcmhjodeaa.cards

/- Regions that draw their order: what ghostsIn wants of them. -/
namespace Go.Proofs.Ytjmlefcmhjodeaa.others
open Go.RowKit
open cards reg
set_option linter.unusedVariables false

section
variable {P : Program} {ops : Array Oper} {Q : Exit → Act → World → Prop} {md : Region.Mode}
/-- A stronger word on the world may be kept from here on. -/
theorem any_strong {S S' : World → Prop} (h : ∀ w, S' w → S w) : ∀ (n : Nat) (l : Array Bool) (a : Act) (w : World), wpAnyH P md ops Q S' n l a w → wpAnyH P md ops Q S n l a w
  | 0, _, _, _, hh => hh
  | n + 1, _, _, _, hh => ⟨hh.1, fun i hi => wpOp_mono (fun a' w' h' => ⟨h _ h'.1, any_strong h n _ _ _ h'.2⟩) (hh.2 i hi)⟩
theorem region_any {id : Nat} {a : Act} {w : World} (S : World → Prop) (N : Nat) (hm : P.follows .mixedOrders = true) (hn : ops.size = N) (h : wpAnyH P .any ops (NoPanic Q) S N (Array.replicate ops.size false) a w.drew) : (Code.region id ops true).wp P Q a w :=
  wp_region_noPanic (wp_region_held hm (S := S) (by rw [← hn] at h; exact h))
theorem take_p (i : Nat) (d : Tmp) {S : World → Prop} {v : Value} {o : Oper} {fuel : Nat} {l : Array Bool} {a : Act} {w : World} (ho : ops[i]? = some o) (hd : o.dst = some d) (hg : o.guard = none) (hs : Region.noSelect ops = true) (hf : Region.free md ops l i = true) (hr : (Region.ready md ops l).contains i = true)
    (he : ∀ w, S w → (execOp a.eval o).run P w = .ok (.value v) w) (hS : S w) (h : wpAnyH P md ops (NoPanic Q) S fuel (l.setIfInBounds i true) (a.put (some d) v) w) : wpAnyH P md ops (NoPanic Q) S (fuel + 1) l a w :=
  wpAnyH_take ho hs hf hr (fun _ _ _ h => h) (.inl ⟨wanted_of hg, he⟩) hS (hd ▸ h)
theorem op_call (i : Nat) (d : Tmp) {o : Oper} {a : Act} {w : World} (ho : ops[i]? = some o) (hd : o.dst = some d) (hg : o.guard = none) {f : FuncId} {args : Array Value} (he : (execOp a.eval o).run P w = .ok (.enter f args) w) {K : Act → World → Prop}
    (hc : Calls P f args w (fun e w' => ∃ v, e = .returned v ∧ K (a.put (some d) v) w')) : wpOp P ops Q i K a w := by
  have hu : Upon P (fun v w' => K (a.put (some d) v) w') ((execOp a.eval o).run P w) := by rw [he]; exact hc
  exact wpOp_upon ho hg hu (fun v w' h => hd ▸ h)
theorem op_val (i : Nat) (d : Tmp) {o : Oper} {a : Act} {w w' : World} {v : Value} (ho : ops[i]? = some o) (hd : o.dst = some d) (hg : o.guard = none) (he : (execOp a.eval o).run P w = .ok (.value v) w') {K : Act → World → Prop}
    (hc : K (a.put (some d) v) w') : wpOp P ops Q i K a w := by
  have hu : Upon P (fun v w' => K (a.put (some d) v) w') ((execOp a.eval o).run P w) := by rw [he]; exact hc
  exact wpOp_upon ho hg hu (fun v w' h => hd ▸ h)
end
theorem exec_cell {a : Act} {o : Oper} {T : TypeId} {x : Operand} {p : Addr} {v : Value} {w : World} (hop : o.op = .load T x) (hx : a.eval x = .pointer (some p)) (h : (loadVar T p).run Try.prog w = .ok v w) : (execOp a.eval o).run Try.prog w = .ok (.value v) w := by
  unfold execOp
  rw [hop]
  simp only [hx]
  simp [Instr.loadAt, Instr.sureAddr, h, Result.andThen]
/-- s[:k] of pairs. -/
theorem exec_to {k n b ad cp : Nat} (hk : k ≤ cp) {a : Act} {o : Oper} {p q : Operand} (ho : o.op = .slice 78 p none (some q) none) (hp : a.eval p = .slice (some ⟨b, ad, none⟩) n cp) (hq : a.eval q = .int .i64 k) (w : World) :
    (execOp a.eval o).run Try.prog w = .ok (.value (.slice (some ⟨b, ad, none⟩) k cp)) w := by
  have h1 : ¬ ((cp : Int) < (k : Int)) := by omega
  have h2 : ¬ ((k : Int) < 0) := by omega
  unfold execOp
  rw [ho]
  simp only [hp, hq, Option.map]
  go_simp
section
variable {ops : Array Oper} {n0 : Nat} {ob0 ob1 : Obj} {fin : Act → (World → Prop) → Prop} {S : World → Prop}
theorem clo2_BI (W : World) (ob0 ob1 : Obj) : Clo2 W.heap.size ob0 ob1 (BI W) (BI W) := ⟨fun _ h => h, fun _ h => Below.size h, fun _ h => Below.alloc h (Below.size h) _, fun _ h => Below.alloc h (Below.size h) _⟩
theorem t_read (d : Tmp) {i : Nat} {r : List (Bool × Nat)} {a : Act} {I : World → Prop} {v : Value} {o : Oper} (ho : ops[i]? = some o) (hd : o.dst = some d) (hg : o.guard = none)
    (he : ∀ w, S w → (execOp a.eval o).run Try.prog w = .ok (.value v) w)
    (hr : chainT Try.prog ops S n0 ob0 ob1 fin r (a.put (some d) v) I) : chainT Try.prog ops S n0 ob0 ob1 fin ((true, i) :: r) a I :=
  ⟨o, v, ho, .inl ⟨wanted_of hg, he⟩, hd ▸ hr⟩
theorem t_call (d : Tmp) {i : Nat} {r : List (Bool × Nat)} {a : Act} {W : World} {f : FuncId} {args : Array Value} {v : Value} {o : Oper} (ho : ops[i]? = some o) (hd : o.dst = some d) (hg : o.guard = none)
    (he : ∀ w, (execOp a.eval o).run Try.prog w = .ok (.enter f args) w) (h : ∀ w, BI W w → Calls Try.prog f args w (fun e w' => e = .returned v ∧ Below w.heap.size w w'))
    (hr : chainT Try.prog ops (BI W) W.heap.size ob0 ob1 fin r (a.put (some d) v) (BI W)) : chainT Try.prog ops (BI W) W.heap.size ob0 ob1 fin ((false, i) :: r) a (BI W) :=
  ⟨o, ho, hg, fun w hI => by
    rw [he]
    exact (h w hI).mono fun e w' ⟨h1, h2⟩ => ⟨v, h1, h2, BI W, clo2_BI W ob0 ob1, BI.next hI h2, hd ▸ hr⟩⟩
end
theorem exec_storeV {T : TypeId} {cs cs2 : Array Value} {w : World} {g : Nat} (h : VB w g T cs) (hi : ((Try.prog).info? T).map (·.size) = some cs.size) (hs : cs2.size = cs.size) (h1 : cs2.all (·.oneCell') = true) {a : Act} {o : Oper} {p q : Operand} (ho : o.op = .store T p q)
    (hp : a.eval p = .pointer (some ⟨g, 0, none⟩)) (hq : a.eval q = .agg cs2) : (execOp a.eval o).run Try.prog w = .ok .skip (w.setCells g 0 cs2.toList) := by
  have hr := run_storeAt_mid (P := Try.prog) w g 0 T cs2 (by rw [hs]; exact h.there) (by rw [hs]; exact hi) h1
  unfold execOp
  rw [ho]
  simp only [hp, hq]
  simp [hr, Result.andThen]
abbrev cvc (x : Cd) : Array Value := #[.int .i64 x.a, .int .i64 x.b, .int .i64 x.c, .int .i64 x.d]
theorem cvc_one (x : Cd) : (cvc x).all (·.oneCell') = true := by simp [Value.oneCell']
theorem box_setsC {w : World} {g : Nat} {x y : Cd} (h : Box w g x) : Box (w.setCells g 0 (cvc y).toList) g y := VB.stored (T := 25) (cs := cvc x) (cs2 := cvc y) h rfl
theorem box_pastC {w : World} {g k : Nat} {x : Cd} (h : Box w k x) (vs : List Value) (hk : k ≠ g) : Box (w.setCells g 0 vs) k x := by
  have e := (grown_setsV g vs 0 w).block k (Box.lt h) (fun e => hk (by cases e; rfl))
  unfold Box at h ⊢
  rw [e]; exact h
/-- Pairs' values. -/
abbrev pv (x : A2) : Array Value := #[.int .i64 x.a, .int .i64 x.b]
theorem load_pair {w : World} {g : Nat} {x : A2} (h : VB w g 79 (pv x)) : (loadVar 79 ⟨g, 0, none⟩).run Try.prog w = .ok (.agg (pv x)) w := VB.load (K := 2) (e := 3) h Try.underlying79 (by kernel_rfl)
theorem load_cell {w : World} {p : Addr} {v : Int} (h : w.cell? p = some (.int .i64 v)) : (loadVar 3 p).run Try.prog w = .ok (.int .i64 v) w := by simp [loadVar, go_sem, h]
theorem load_card {w : World} {g : Nat} {x : Cd} (h : Box w g x) : (loadVar 25 ⟨g, 0, none⟩).run Try.prog w = .ok x.val w := VB.load (K := 4) (e := 3) (cs := cvc x) h Try.underlying25 (by kernel_rfl)
theorem rd_pair {w : World} {g : Nat} {x : A2} (h : VB w g 79 (pv x)) : Rd w (some ⟨g, 0, none⟩) (ints [x.a, x.b]) := fun _ => by
  refine ⟨g, 0, rfl, h.lt, fun j v hv => ?_⟩
  rw [Nat.zero_add]
  refine VB.at_ h ?_
  have hj : j < 2 := by have := (List.getElem?_eq_some_iff.1 hv).1; simpa [ints] using this
  rcases (show j = 0 ∨ j = 1 by omega) with rfl | rfl
  · simpa [ints] using hv
  · simpa [ints] using hv
theorem flat2_take (l : List A2) : ∀ k : Nat, A2.flat (l.take k) = (A2.flat l).take (2 * k) := by
  induction l with
  | nil => intro k; simp [A2.flat]
  | cons x r ih =>
    intro k
    cases k with
    | zero => simp [A2.flat]
    | succ k =>
      have e : A2.flat (x :: r) = x.cells ++ A2.flat r := rfl
      have e2 : A2.flat (x :: r.take k) = x.cells ++ A2.flat (r.take k) := rfl
      rw [List.take_succ_cons, e, e2, ih k, show 2 * (k + 1) = x.cells.length + 2 * k by simp [A2.cells]; omega, List.take_length_add_append]
theorem rd_take2 {w : World} {p : Option Addr} {l : List A2} (h : Rd w p (A2.flat l)) (k : Nat) : Rd w p (A2.flat (l.take k)) := fun hp => by
  rw [flat2_take] at hp ⊢
  obtain ⟨b, o, e, hlt, hc⟩ := h (by rw [List.length_take] at hp; omega)
  refine ⟨b, o, e, hlt, fun j v hv => hc j v ?_⟩
  rw [List.getElem?_take] at hv
  split at hv
  · exact hv
  · cases hv
/-- Four numbers in a block. -/
abbrev ob4 (a b c d : Nat) : Obj := .cells #[.int .i64 a, .int .i64 b, .int .i64 c, .int .i64 d] 3
theorem rd_ob4 {w : World} {g : Nat} {a b c d : Nat} (h : w.heap[g]? = some (ob4 a b c d)) : Rd w (some ⟨g, 0, none⟩) (ints [(a : Int), (b : Int), (c : Int), (d : Int)]) := fun _ => by
  refine ⟨g, 0, rfl, (Array.getElem?_eq_some_iff.1 h).1, fun j v hv => ?_⟩
  rw [Nat.zero_add, cell_of_row w g j _ _ _ h]
  rw [← hv]; simp [ints]
/-- m[c] -/
theorem exec_look {a : Act} {o : Oper} {T : TypeId} {m x : Operand} {g : Nat} {key v : Value} {w : World} (hop : o.op = .lookup T m x false) (hm : a.eval m = .map (some g)) (hx : a.eval x = key) (h : (Instr.lookup T (.map (some g)) key false).run Try.prog w = .ok v w) : (execOp a.eval o).run Try.prog w = .ok (.value v) w := by
  unfold execOp
  rw [hop]
  simp only [hm, hx]
  simp [h, Result.andThen]
theorem chain_read {ops : Array Oper} {n0 : Nat} {obj : Obj} {fin : Act → (World → Prop) → Prop} {S : World → Prop} (d : Tmp) {i : Nat} {r : List (Bool × Nat)} {a : Act} {I : World → Prop} {v : Value} {o : Oper} (ho : ops[i]? = some o) (hd : o.dst = some d) (hg : o.guard = none)
    (he : ∀ w, S w → (execOp a.eval o).run Try.prog w = .ok (.value v) w)
    (hr : chainA Try.prog ops S n0 obj fin r (a.put (some d) v) I) : chainA Try.prog ops S n0 obj fin ((true, i) :: r) a I :=
  ⟨o, v, ho, .inl ⟨wanted_of hg, he⟩, hd ▸ hr⟩
end Go.Proofs.Ytjmlefcmhjodeaa.others

/- thirdAt; maps from cards to lists of pairs. -/
namespace Go.Proofs.Ytjmlefcmhjodeaa.others
open Go.RowKit
open Go.Maps (Keyed)
open cards reg
set_option linter.unusedVariables false

theorem exec_index2 {N : Nat} (hN : N < 2) {a : Act} {o : Oper} {p q : Operand} (ho : o.op = .indexAddr 79 p q) {g : Nat} (hp : a.eval p = .pointer (some ⟨g, 0, none⟩)) (hq : a.eval q = .int .i64 N) (w : World) :
    (execOp a.eval o).run Try.prog w = .ok (.value (.pointer (some ⟨g, N, none⟩))) w := by
  have h0 : (0 : Int) ≤ (N : Int) := by omega
  have h1 : (N : Int) < 2 := by omega
  unfold execOp
  rw [ho]
  simp only [hp, hq]
  go_simp
abbrev cvx (x : Cd) : Array Value := #[.int .i64 x.a, .int .i64 x.b, .int .i64 x.c, .int .i64 x.d]
theorem cvx_one (x : Cd) : (cvx x).all (·.oneCell') = true := by simp [Value.oneCell']
theorem cvx_info : ((Try.prog).info? 25).map (·.size) = some 4 := by kernel_rfl
theorem exec_storeC {w : World} {g : Nat} {x : Cd} (h : Box w g x) (y : Cd) {a : Act} {o : Oper} {p q : Operand} (ho : o.op = .store 25 p q)
    (hp : a.eval p = .pointer (some ⟨g, 0, none⟩)) (hq : a.eval q = y.val) : (execOp a.eval o).run Try.prog w = .ok .skip (w.setCells g 0 (cvx y).toList) := by
  have hr := run_storeAt_mid (P := Try.prog) w g 0 25 (cvx y) (VB.there (T := 25) (cs := cvx x) h) cvx_info (cvx_one y)
  unfold execOp
  rw [ho]
  simp only [hp, hq]
  simp [hr, Result.andThen]
theorem box_stored {w : World} {g : Nat} {x y : Cd} (h : Box w g x) : Box (w.setCells g 0 (cvx y).toList) g y := VB.stored (T := 25) (cs := cvx x) (cs2 := cvx y) h rfl

set_option maxRecDepth 100000 in
set_option maxHeartbeats 4000000 in
theorem third_at (l : List Cd) (p : Option Addr) (n cp : Nat) (i j : Nat) (w : World) (hn : l.length = n) (hr : Rd w p (flat l)) (hok : l.all Cd.ok = true) (hi : i < n) (hj : j < n) :
    Calls Try.prog 99 #[.slice p n cp, (A2.mk i j).val] w fun e w' => e = .returned (th l ⟨i, j⟩).val ∧ Below w.heap.size w w' := by
  obtain ⟨bx, o, x, rfl, hb, hx, c0, c1, c2, c3⟩ := hr.card (k := i) (by omega)
  obtain ⟨y, hy⟩ : ∃ y, l[j]? = some y := ⟨_, List.getElem?_eq_getElem (by omega)⟩
  obtain ⟨d0, d1, d2, d3⟩ := hr.at_ hy
  rw [th_at hx hy]
  have HT := Lib.hid (fun w => third_of x y w (ok_at hok hx) (ok_at hok hy))
  have hto := third_ok x y
  generalize third x y = t at *
  have b0 : Below w.heap.size w ((w.alloc (A2.mk i j).obj).alloc zero.obj) := ((Below.refl _ _).alloc (Nat.le_refl _) _).alloc (by simp) _
  have HX : Hid (∀ w', w.grownBy w' (some (w.heap.size + 1)) → w'.cell? ⟨bx, o + i * 4, none⟩ = some (.int .i64 x.a) ∧ w'.cell? ⟨bx, o + i * 4 + 1, none⟩ = some (.int .i64 x.b) ∧ w'.cell? ⟨bx, o + i * 4 + 2, none⟩ = some (.int .i64 x.c) ∧ w'.cell? ⟨bx, o + i * 4 + 3, none⟩ = some (.int .i64 x.d)) := Lib.hid (fun w' h => ⟨GS.cell h c0 hb (by omega), GS.cell h c1 hb (by omega), GS.cell h c2 hb (by omega), GS.cell h c3 hb (by omega)⟩)
  have HY : Hid (∀ w', w.grownBy w' (some (w.heap.size + 1)) → w'.cell? ⟨bx, o + j * 4, none⟩ = some (.int .i64 y.a) ∧ w'.cell? ⟨bx, o + j * 4 + 1, none⟩ = some (.int .i64 y.b) ∧ w'.cell? ⟨bx, o + j * 4 + 2, none⟩ = some (.int .i64 y.c) ∧ w'.cell? ⟨bx, o + j * 4 + 3, none⟩ = some (.int .i64 y.d)) := Lib.hid (fun w' h => ⟨GS.cell h d0 hb (by omega), GS.cell h d1 hb (by omega), GS.cell h d2 hb (by omega), GS.cell h d3 hb (by omega)⟩)
  have K3 : Hid (VB ((w.alloc (A2.mk i j).obj).alloc zero.obj) w.heap.size 79 #[.int .i64 i, .int .i64 j]) := Lib.hid ((VB.newAt rfl rfl).alloc _)
  have K4 : Hid (Box ((w.alloc (A2.mk i j).obj).alloc zero.obj) (w.heap.size + 1) zero) := Lib.hid (Box.newAt (by simp) rfl)
  have HG : Hid (w.grownBy ((w.alloc (A2.mk i j).obj).alloc zero.obj) (some (w.heap.size + 1))) := Lib.hid ((World.grownBy_alloc _ _ _).trans (World.grownBy_alloc _ _ _))
  have HB := Lib.hid b0
  clear hr hok hx hy c0 c1 c2 c3 d0 d1 d2 d3 b0 hto
  go_enter Try.func99, Try.ntmps99
  go_upto_region 1 with fail
  generalize (w.alloc (A2.mk i j).obj).alloc zero.obj = W at *
  have k3z := K3.out.lt
  have k4z := K4.out.lt
  refine region_storeG (w.heap.size + 1) [(true, 0), (true, 1), (true, 2), (true, 3), (true, 4), (true, 5), (true, 6), (true, 7), (true, 8), (true, 9), (false, 10)] 11 _ (by kernel_rfl) rfl (by kernel_rfl) rfl rfl rfl ?_
  refine chain_pure 5 (v := .slice (some ⟨bx, o, none⟩) n cp) rfl rfl rfl (fun w => by kernel_rfl) ?_
  refine chain_pure 6 (v := .pointer (some ⟨w.heap.size, 0, none⟩)) rfl rfl rfl (exec_index2 (N := 0) (by omega) rfl (by kernel_rfl) (by kernel_rfl)) ?_
  refine chain_intS 7 rfl rfl rfl rfl (by kernel_rfl) (fun w' h => GS.cell h (VB.at_ K3.out (j := 0) rfl) k3z (by omega)) ?_
  refine chain_pure 8 (v := .pointer (some ⟨bx, o + i * 4, none⟩)) rfl rfl rfl (exec_indexS (cp := cp) hi rfl (by kernel_rfl) (by kernel_rfl)) ?_
  refine chain_card 9 rfl rfl rfl _ rfl (by kernel_rfl) x (fun w' h => HX.out w' (HG.out.trans h)) ?_
  refine chain_pure 10 (v := .slice (some ⟨bx, o, none⟩) n cp) rfl rfl rfl (fun w => by kernel_rfl) ?_
  refine chain_pure 11 (v := .pointer (some ⟨w.heap.size, 1, none⟩)) rfl rfl rfl (exec_index2 (N := 1) (by omega) rfl (by kernel_rfl) (by kernel_rfl)) ?_
  refine chain_intS 12 rfl rfl rfl rfl (by kernel_rfl) (fun w' h => GS.cell h (VB.at_ K3.out (j := 1) rfl) k3z (by omega)) ?_
  refine chain_pure 13 (v := .pointer (some ⟨bx, o + j * 4, none⟩)) rfl rfl rfl (exec_indexS (cp := cp) hj rfl (by kernel_rfl) (by kernel_rfl)) ?_
  refine chain_card 14 rfl rfl rfl _ rfl (by kernel_rfl) y (fun w' h => HY.out w' (HG.out.trans h)) ?_
  refine chain_callG 15 rfl rfl rfl (fun w => by kernel_rfl) (fun w h => HT.out w) ?_
  intro w8 b8
  have hz8 := K4.out.below b8
  refine ⟨_, exec_storeC hz8 t rfl (by kernel_rfl) (by kernel_rfl), World.grownBy.trans (BI.gs _ b8) (grown_setsV _ _ _ _), ?_⟩
  have KF := box_stored (y := t) hz8
  have HBF := HB.out.grown (World.grownBy.trans (BI.gs (w.heap.size + 1) b8) (grown_setsV (w.heap.size + 1) (cvx t).toList 0 w8)) HB.out.size (fun k hk => by injection hk with hk; omega)
  show Exit.then _ _ _ _ _
  generalize w8.setCells (w.heap.size + 1) 0 (cvx t).toList = w9 at *
  simp only [Act.put, List.setIfInBounds_toArray, List.set_cons_zero, List.set_cons_succ]
  go_wp2_with fail
  try simp only [Exit.inBlock, Exit.then]
  refine bodyPost_ret (res_vb Try.results99 rfl (show VB w9 (w.heap.size + 1) 25 (cvx t) from KF) Try.underlying25 cvx_info) rfl ?_
  exact ⟨rfl, HBF⟩
end Go.Proofs.Ytjmlefcmhjodeaa.others

/- A map from cards to whatever values, made by the call; and one to lists of pairs, each in a row of its own. -/
namespace Go.Proofs.Ytjmlefcmhjodeaa.others
open Go.RowKit
open Go.Maps (Keyed)
open Go.ChangeMaps Go.MapKept
open Go.WideElems (Fit rd rg pl rd_val entry_then_store)
open cards reg
set_option linter.unusedVariables false

set_option maxRecDepth 100000 in
theorem klaw : Go.WideMaps.KeyLaw Try.prog 25 := deep_law_laid laidOutM (m := 2) (by omega) rowM (by kernel_rfl) wideM
abbrev nilv : Value := .slice none 0 0
/-- An element reads as itself. -/
def Rv (v : Value) : Option (DataW Value × List MemPlace) := some (.held v, [])
/-- Block g is a map of at most m entries; V tells the value at each card. -/
def MapV (w : World) (g m : Nat) (V : Cd → Value) : Prop := ∃ D : DataW Value, w.ownsMap Try.prog 25 Rv g m D ∧ (∀ x : Cd, x.ok = true → D.atKey (kl x) (.held nilv) = .held (V x)) ∧ ∀ k, Maps.has D k = true → ∃ x : Cd, x.ok = true ∧ k = kl x
theorem MapV.made (w : World) : MapV (w.alloc (.map #[] 0)) w.heap.size 0 (fun _ => nilv) := ⟨_, World.ownsMap_made w Try.prog _ _, fun x _ => rfl, fun k h => by simp [Maps.has_eq] at h⟩
theorem MapV.lt {w : World} {g m : Nat} {V : Cd → Value} (h : MapV w g m V) : g < w.heap.size := by obtain ⟨D, h1, _⟩ := h; exact h1.lt
theorem MapV.kept {w w' : World} {g m : Nat} {V : Cd → Value} {row : Option Nat} (h : MapV w g m V) (hg : w.grownBy w' row) (hne : some g ≠ row) : MapV w' g m V := by
  obtain ⟨D, h1, h2⟩ := h
  exact ⟨D, h1.kept hg hne, h2⟩
theorem MapV.mono {w : World} {g m m' : Nat} {V : Cd → Value} (h : MapV w g m V) (hm : m ≤ m') : MapV w g m' V := by
  obtain ⟨D, h1, h2⟩ := h
  exact ⟨D, h1.mono hm, h2⟩
theorem MapV.below {w w1 : World} {g m : Nat} {V : Cd → Value} (h : MapV w g m V) (hb : Below w.heap.size w w1) : MapV w1 g m V :=
  h.kept (row := none) ⟨hb.os, hb.tape, hb.output, hb.size, fun j hj _ => hb.block j hj⟩ (by simp)
theorem MapV.alloc {w : World} {g m : Nat} {V : Cd → Value} (h : MapV w g m V) (o : Obj) : MapV (w.alloc o) g m V := h.kept (World.grownBy_alloc w o none) (by simp)
theorem MapV.drew {w : World} {g m : Nat} {V : Cd → Value} (h : MapV w g m V) : MapV w.drew g m V := h
theorem MapV.drewN {w : World} {g m : Nat} {V : Cd → Value} (h : MapV w g m V) (n : Nat) : MapV (w.drewN n) g m V := h
theorem zeroN (w : World) : (zeroValue 78).run Try.prog w = .ok nilv w := by kernel_rfl
/-- m[c] -/
theorem mapV_look {w : World} {g n : Nat} {V : Cd → Value} (hM : MapV w g n V) {c : Cd} (hc : c.ok = true) : (Instr.lookup 76 (.map (some g)) c.val false).run Try.prog w = .ok (V c) w := by
  obtain ⟨D, h1, h2, _⟩ := hM
  obtain ⟨v, ps, hrun, hv⟩ := h1.lookup mlaw Try.underlying76 (zeroN w) (zd := .held nilv) (zp := []) rfl (mkey hc)
  rw [h2 c hc] at hv
  unfold Rv at hv
  simp at hv
  rw [← hv.1]; exact hrun
def putV (V : Cd → Value) (c : Cd) (v : Value) : Cd → Value := fun y => if same y c = true then v else V y
set_option maxRecDepth 100000 in
/-- m[c] op= ..: the entry, then the store. -/
theorem mapV_entry {w : World} {g n : Nat} {V : Cd → Value} (hM : MapV w g n V) (hn : n < maxLen) {c : Cd} (hc : c.ok = true) :
    ∃ (st : Nat) (w1 : World), (Instr.mapEntry 76 (.map (some g)) c.val).run Try.prog w = .ok (.tuple #[V c, goInt st]) w1 ∧ w.grownBy w1 (some g) ∧ w1.heap.size = w.heap.size ∧
      ∀ (w2 : World) (val : Value), w2.heap[g]? = w1.heap[g]? → ∃ w3, (Instr.entryStore 76 (.map (some g)) (goInt st) val).run Try.prog w2 = .ok () w3 ∧ MapV w3 g (n + 1) (putV V c val) ∧ w2.grownBy w3 (some g) := by
  obtain ⟨D, h1, h2, h3⟩ := hM
  obtain ⟨es, clock, hb, F, hs, rfl⟩ := h1
  obtain ⟨v0, st, es1, clock1, hrun, hv0, hst⟩ := entry_then_store klaw Try.underlying76 zeroN hb F (mkey hc)
  have hV : v0 = V c := by
    have hpw := ((stamped_iff es clock).1 F.stamped).2.2
    rcases Maps.fit_look false mlaw Try.underlying76 (zeroN w) hb F (mkey hc) with ⟨_, hno, hat⟩ | ⟨e0, y, he0, hk0, _, hRv, hat, _⟩
    · rcases hv0 with ⟨e1, he1, hk1, _⟩ | ⟨_, hz⟩
      · exact absurd hk1 (hno e1 he1)
      · have := h2 c hc
        rw [hat] at this
        injection this with this
        rw [hz, this]
    · rcases hv0 with ⟨e1, he1, hk1, hz⟩ | ⟨hno, _⟩
      · have e := entry_eq_of_key hpw he0 he1 (hk0.trans hk1.symm)
        have h4 := h2 c hc
        rw [hat] at h4
        unfold Rv at hRv
        injection hRv with hRv
        rw [← hRv] at h4
        injection h4 with h4
        rw [hz, ← e, h4]
      · exact absurd hk0 (hno e0 he0)
  subst hV
  refine ⟨st, _, hrun, ⟨rfl, rfl, rfl, by simp [setBlock], fun i _ hi => heap_setBlock_other hb _ (fun e => hi (by rw [e]))⟩, by simp [setBlock], fun w2 val hw2 => ?_⟩
  have hw2' : w2.heap[g]? = some (.map es1 clock1) := hw2.trans (heap_setBlock_same hb _)
  obtain ⟨es', clock', hr2, hu⟩ := hst w2 val hw2'
  obtain ⟨es2, clock2, hu2, F', hput, _⟩ := Maps.fit_store (R' := Rv) mlaw Try.underlying76 hb F (Nat.lt_of_le_of_lt hs hn) (fun _ _ _ _ hz => hz) (mkey hc) (val := val) (yv := (.held val, [])) rfl
  have heq : (Obj.map es' clock') = .map es2 clock2 := by
    rw [hu] at hu2
    injection hu2 with _ hw
    have k1 := heap_setBlock_same hb (.map es' clock')
    have k2 := heap_setBlock_same hb (.map es2 clock2)
    rw [hw, k2] at k1
    injection k1 with k1
    exact k1.symm
  injection heq with e1 e2
  subst e1; subst e2
  have hmap : w2.heap[g]? = some (.map es1 clock1) := hw2'
  have hT : Maps.IsMap (DataW.map ((es.toList.map (rg Try.prog 25 Rv)).foldr DataW.insert [])) := by exact ⟨_, rfl⟩
  refine ⟨_, hr2, ⟨_, ⟨es', clock', heap_setBlock_same hmap _, F', ?_, rfl⟩, ?_, ?_⟩, ⟨rfl, rfl, rfl, by simp [setBlock], fun i _ hi => heap_setBlock_other hmap _ (fun e => hi (by rw [e]))⟩⟩
  · have e1 : es'.size = ((es'.toList.map (rg Try.prog 25 Rv)).foldr DataW.insert []).length := by rw [length_sorted]; simp
    rw [e1, hput]
    unfold putKey
    rw [length_insert]
    have e2 := List.length_filter_le (notKey (kl c)) ((es.toList.map (rg Try.prog 25 Rv)).foldr DataW.insert [])
    rw [length_sorted] at e2
    simp at e2
    omega
  · intro y hy
    rw [hput, ← DataW.put_eq]
    unfold putV
    cases hs : same y c
    · have hne : kl y ≠ kl c := fun e => by
        have := kl_inj hy hc e
        subst this
        simp [same] at hs
      rw [Maps.atKey_put_other hne, h2 y hy]; simp
    · have := same_iff.1 hs
      subst this
      rw [Maps.atKey_put_same hT (kl_key hy)]; simp
  · intro k hk
    rw [hput, ← DataW.put_eq] at hk
    by_cases e : k = kl c
    · exact ⟨c, hc, e⟩
    · rw [Maps.has_put_other e] at hk
      exact h3 k hk
end Go.Proofs.Ytjmlefcmhjodeaa.others

/- pairsByThird. -/
namespace Go.Proofs.Ytjmlefcmhjodeaa.others
open Go.RowKit
open Go.Maps (Keyed)
open cards reg
set_option linter.unusedVariables false

theorem take_entry {ops : Array Oper} {rest : List Oper} {o : Oper} {a : Act} {Q : Exit → Act → World → Prop} {w w1 : World} {T : TypeId} {g : Nat} {key v : Value} (hg : o.guard = none) (m x : Operand) (hop : o.op = Op.mapEntry T m x)
    (hm : a.eval m = .map (some g)) (hx : a.eval x = key) (hrun : (Instr.mapEntry T (.map (some g)) key).run Try.prog w = .ok v w1) (hK : wpList Try.prog ops Q rest (a.put o.dst v) w1) : wpList Try.prog ops Q (o :: rest) a w := by
  refine wpList_plain hg fun K' hK' => ?_
  unfold Oper.wp
  simp [execOp, hop, hm, hx, hrun, Result.andThen]
  exact hK' _ _ hK
theorem take_entryStore {ops : Array Oper} {rest : List Oper} {o : Oper} {a : Act} {Q : Exit → Act → World → Prop} {w w1 : World} {T : TypeId} {g : Nat} {st v : Value} (hg : o.guard = none) (m s x : Operand) (hop : o.op = Op.entryStore T m s x)
    (hm : a.eval m = .map (some g)) (hs : a.eval s = st) (hx : a.eval x = v) (hrun : (Instr.entryStore T (.map (some g)) st v).run Try.prog w = .ok () w1) (hK : wpList Try.prog ops Q rest (a.put o.dst undef) w1) : wpList Try.prog ops Q (o :: rest) a w := by
  refine wpList_plain hg fun K' hK' => ?_
  unfold Oper.wp
  simp [execOp, hop, hm, hs, hx, hrun, Result.andThen]
  exact hK' _ _ hK
/-- Block g is a map whose slices are the lists F tells, in rows of their own from block B on, and not in u's row. -/
def PM (w : World) (B g m : Nat) (u : Value) (F : Cd → List A2) : Prop := ∃ V : Cd → Value, MapV w g m V ∧ (∀ x : Cd, x.ok = true → OwnA2 w B (V x) (F x)) ∧ (∀ x y : Cd, x.ok = true → y.ok = true → same x y = false → Ap (V x) (V y)) ∧ (∀ x : Cd, x.ok = true → Ap (V x) u) ∧ g < B
theorem ap_nil {u : Value} : Ap nilv u := fun g h => by simp [Value.ownBlock] at h
theorem PM.made {w w1 : World} {u : Value} (b : Below w.heap.size w w1) (h : MapV w1 w.heap.size 0 (fun _ => nilv)) : PM w1 (w.heap.size + 1) w.heap.size 0 u (fun _ => []) :=
  ⟨_, h, fun x _ => ⟨rfl, .inl ⟨rfl, rfl⟩⟩, fun _ _ _ _ _ => ap_nil, fun _ _ => ap_nil, Nat.lt_succ_self _⟩
theorem PM.below {w w1 : World} {B g m : Nat} {u : Value} {F : Cd → List A2} (h : PM w B g m u F) (b : Below w.heap.size w w1) : PM w1 B g m u F := by
  obtain ⟨V, h1, h2, h3, h4, h5⟩ := h
  exact ⟨V, h1.below b, fun x hx => (h2 x hx).below b, h3, h4, h5⟩
theorem PM.alloc {w : World} {B g m : Nat} {u : Value} {F : Cd → List A2} (h : PM w B g m u F) (o : Obj) : PM (w.alloc o) B g m u F := h.below ((Below.refl _ _).alloc (Nat.le_refl _) o)
theorem PM.drew {w : World} {B g m : Nat} {u : Value} {F : Cd → List A2} (h : PM w B g m u F) : PM w.drew B g m u F := h.below (Below.drew (Below.refl _ _))
theorem PM.drewN {w : World} {B g m : Nat} {u : Value} {F : Cd → List A2} (h : PM w B g m u F) (n : Nat) : PM (w.drewN n) B g m u F := h.below (bdN (Below.refl _ _) n)
theorem PM.lt {w : World} {B g m : Nat} {u : Value} {F : Cd → List A2} (h : PM w B g m u F) : g < w.heap.size := by obtain ⟨V, h1, _⟩ := h; exact h1.lt
theorem PM.step {w w8 w9 : World} {B g m : Nat} {u v1 : Value} {F : Cd → List A2} {V : Cd → Value} {c : Cd} {p : A2} (hc : c.ok = true) (h9 : MapV w9 g (m + 1) (putV V c v1)) (h2 : ∀ x : Cd, x.ok = true → OwnA2 w B (V x) (F x))
    (h3 : ∀ x y : Cd, x.ok = true → y.ok = true → same x y = false → Ap (V x) (V y)) (h4 : ∀ x : Cd, x.ok = true → Ap (V x) u) (h5 : g < B) (hu : ∀ q, u.ownBlock = some q → q < w.heap.size)
    (h1 : OwnA2 w8 B v1 (F c ++ [p])) (hG : w.grownBy w8 (V c).ownBlock) (hA : v1.ownBlock = (V c).ownBlock ∨ v1.ownBlock = some w.heap.size) (hg9 : w8.grownBy w9 (some g)) :
    PM w9 B g (m + 1) u (fun x => if same x c = true then F c ++ [p] else F x) := by
  refine ⟨_, h9, fun x hx => ?_, fun x y hx hy hxy => ?_, fun x hx => ?_, h5⟩
  · show OwnA2 w9 B (if same x c = true then v1 else V x) (if same x c = true then F c ++ [p] else F x)
    cases hs : same x c
    · simp only [Bool.false_eq_true, if_false]
      have hcx : same c x = false := by rw [Bool.eq_false_iff] at hs ⊢; intro e; exact hs (same_iff.2 (same_iff.1 e).symm)
      exact OwnA2.off (OwnA2.past (h2 x hx) hG (h3 c x hc hx hcx)) hg9 h5
    · simp only [if_true]
      exact OwnA2.off h1 hg9 h5
  · unfold putV
    have lt : ∀ z : Cd, z.ok = true → ∀ q, (V z).ownBlock = some q → q < w.heap.size := fun z hz q hq => ((h2 z hz).span q hq).2
    cases hs : same x c
    · cases ht : same y c
      · simp only [Bool.false_eq_true, if_false]; exact h3 x y hx hy hxy
      · simp only [Bool.false_eq_true, if_false, if_true]
        have hcx : same c x = false := by rw [Bool.eq_false_iff] at hs ⊢; intro e; exact hs (same_iff.2 (same_iff.1 e).symm)
        exact (Ap.next (h3 c x hc hx hcx) (lt x hx) hA).symm
    · cases ht : same y c
      · simp only [Bool.false_eq_true, if_false, if_true]
        have hcy : same c y = false := by rw [Bool.eq_false_iff] at ht ⊢; intro e; exact ht (same_iff.2 (same_iff.1 e).symm)
        exact Ap.next (h3 c y hc hy hcy) (lt y hy) hA
      · have e1 := same_iff.1 hs
        have e2 := same_iff.1 ht
        rw [e1, e2] at hxy
        rw [same_iff.2 rfl] at hxy; cases hxy
  · unfold putV
    split
    · exact Ap.next (h4 c hc) hu hA
    · exact h4 x hx
theorem PM.ext {w : World} {B g m : Nat} {u : Value} {F F' : Cd → List A2} (h : PM w B g m u F) (e : ∀ x : Cd, x.ok = true → F x = F' x) : PM w B g m u F' := by
  obtain ⟨V, h1, h2, h3, h4, h5⟩ := h
  exact ⟨V, h1, fun x hx => by rw [← e x hx]; exact h2 x hx, h3, h4, h5⟩
theorem by3_step {l : List Cd} {P : List A2} {k : Nat} {p : A2} (h : P[k]? = some p) {x : Cd} : (if same x (th l p) = true then by3 l (P.take k) (th l p) ++ [p] else by3 l (P.take k) x) = by3 l (P.take (k + 1)) x := by
  rw [take_snoc h]
  unfold by3
  rw [List.filter_append]
  cases hs : same x (th l p)
  · have hs2 : same (th l p) x = false := by rw [Bool.eq_false_iff] at hs ⊢; intro e; exact hs (same_iff.2 (same_iff.1 e).symm)
    simp [hs2]
  · have e := same_iff.1 hs
    rw [if_pos rfl, ← e]
    have : same (th l p) x = true := same_iff.2 e.symm
    simp [this]

set_option maxRecDepth 100000 in
set_option maxHeartbeats 8000000 in
theorem pairs_by (l : List Cd) (p : Option Addr) (n cp : Nat) (w : World) (hn : l.length = n) (hl : n ≤ 1000) (hr : Rd w p (flat l)) (hok : l.all Cd.ok = true) :
    Calls Try.prog 73 #[.slice p n cp] w fun e w' => ∃ g m, e = .returned (.map (some g)) ∧ PM w' (g + 1) g m nilv (by3 l (pAll n)) ∧ w.heap.size ≤ g ∧ Below w.heap.size w w' := by
  have HN := Lib.hid hn
  have HR0 := Lib.hid hr
  have HK := Lib.hid hok
  have HPP := Lib.hid (fun w => place_pairs n w hl)
  have HM0 := Lib.hid (MapV.made w)
  have HB0 : Hid (Below w.heap.size w (w.alloc (.map #[] 0))) := Lib.hid ((Below.refl _ _).alloc (Nat.le_refl _) _)
  have HPl : Hid ((pAll n).length ≤ 1000000) := Lib.hid (by have h1 := pAll_len n; have h2 : n * n ≤ 1000 * 1000 := Nat.mul_le_mul hl hl; omega)
  have HPm := Lib.hid (fun q hq => (pAll_mem (p := q) (m := n)).1 hq)
  have hmm := @run_makeMap Try.prog
  clear hn hr hok
  generalize pAll n = P at *
  go_enter Try.func73, Try.ntmps73
  go_upto_region 2 with fail
  generalize w.alloc (.map #[] 0) = W at *
  obtain ⟨g, hg⟩ : ∃ g, w.heap.size = g := ⟨_, rfl⟩
  have HGe := Lib.hid hg
  have HGz := Lib.hid HM0.out.lt
  rw [hg] at HM0 HGz
  try rw [hg]
  go_wp2_with fail
  refine (HPP.out _).mono ?_
  rintro e w3 ⟨u, rfl, hu, b⟩
  have HB := Lib.hid (chain0 HB0.out b)
  have HU := Lib.hid (OwnA2.base hu (show g + 1 ≤ W.heap.size from HGz.out))
  have HM : Hid (PM w3 (g + 1) g 0 u (by3 l (P.take 0))) := Lib.hid (PM.ext (PM.below ⟨_, HM0.out, fun x _ => ⟨rfl, .inl ⟨rfl, rfl⟩⟩, fun _ _ _ _ _ => ap_nil, fun _ _ => ap_nil, Nat.lt_succ_self g⟩ b) (fun x _ => rfl))
  obtain ⟨pu, cu, rfl, _, _, _⟩ := hu.form
  clear hu b HM0 HB0 hg
  obtain ⟨np, hnp⟩ : ∃ np, P.length = np := ⟨_, rfl⟩
  have HNp := Lib.hid hnp
  rw [hnp] at HPl HU HM ⊢
  clear hnp
  go_wp2_with fail
  go_loopw [5, 6, 12] (fun _ _ i wr => ∃ k : Nat, k ≤ np ∧ i = .int .i64 k ∧ Hid (PM wr (g + 1) g k (.slice pu np cu) (by3 l (P.take k))) ∧ Hid (OwnA2 wr (g + 1) (.slice pu np cu) P) ∧ Hid (Below w.heap.size w wr)) (fun _ _ i _ => np - (intOf i).toNat)
  case atStart => exact ⟨0, Nat.zero_le _, rfl, HM, HU, HB⟩
  case round =>
    clear HM HU HB
    obtain ⟨k, hk, rfl, HM, HU, HB⟩ := hrel
    have m0 : (0 : Int) ≤ (k : Int) := by omega
    have hmm := HPl.out
    by_cases hlt : k < np
    · have m1 : (k : Int) < (np : Int) := by omega
      obtain ⟨bu, ou, a, rfl, hbu, ha, c0, c1⟩ := HU.out.rd.aA2 (k := k) (by rw [HNp.out]; exact hlt)
      obtain ⟨i, j, hij, hjn, rfl⟩ := HPm.out a (List.mem_of_getElem? ha)
      have HSt := Lib.hid (fun x => by3_step (l := l) ha (x := x))
      have HLn := Lib.hid (show ∀ x, (by3 l (P.take k) x).length ≤ 1000000 from fun x => by
        unfold by3
        exact Nat.le_trans (List.length_filter_le _ _) (by rw [List.length_take]; omega))
      have HT := Lib.hid (fun w h => third_at l p n cp i j w HN.out h HK.out (by omega) hjn)
      have hc := th_ok l ⟨(i : Int), (j : Int)⟩
      obtain ⟨c, hce⟩ : ∃ c, th l ⟨(i : Int), (j : Int)⟩ = c := ⟨_, rfl⟩
      rw [hce] at HT hc HSt
      have HC := Lib.hid hc
      clear ha hce hc
      go_upto_region 5 with fail
      have K5 : Hid (VB (wr.alloc (A2.mk i j).obj) wr.heap.size 79 #[.int .i64 i, .int .i64 j]) := Lib.hid (VB.newAt rfl rfl)
      have b : Below wr.heap.size wr (wr.alloc (A2.mk i j).obj) := (Below.refl _ _).alloc (Nat.le_refl _) _
      clear c0 c1
      generalize wr.alloc (A2.mk i j).obj = w4 at *
      have Sw4 := Lib.hid b.size
      have HB := Lib.hid (chain0 (w := w) (by repeat (first | with_reducible exact Below.refl _ _ | with_reducible exact HB.out | with_reducible apply Below.drew | with_reducible apply bdN | with_reducible refine Below.alloc ?_ (by first | exact Nat.le_refl _ | with_reducible exact HB.out.size | omega | (simp; done) | (simp; omega) | (have := HB.out.size; simp at *; omega)) _ | with_reducible refine Below.setCell ?_ (by first | exact Nat.le_refl _ | with_reducible exact HB.out.size | omega | (simp; done) | (simp; omega) | (have := HB.out.size; simp at *; omega)) _)) b)
      have HM := Lib.hid (PM.below (by repeat (first | with_reducible exact HM.out | with_reducible apply PM.drewN | with_reducible apply PM.drew | with_reducible apply PM.alloc)) b)
      have HU := Lib.hid (OwnA2.below (by repeat (first | with_reducible exact HU.out | with_reducible apply OwnA2.drewN | with_reducible apply OwnA2.drew | with_reducible apply OwnA2.alloc)) b)
      clear b
      obtain ⟨g5, hg5⟩ : ∃ g5, wr.heap.size = g5 := ⟨_, rfl⟩
      rw [hg5] at K5
      try rw [hg5]
      clear hg5
      have d0 := VB.at_ K5.out (j := 0) rfl
      have d1 := VB.at_ K5.out (j := 1) rfl
      go_wp2_with fail
      refine ((HT.out _ (HR0.out.below HB.out))).mono ?_
      rintro e w5 ⟨rfl, b⟩
      have Sw5 := Lib.hid b.size
      have HB := Lib.hid (chain0 (w := w) (by repeat (first | with_reducible exact Below.refl _ _ | with_reducible exact HB.out | with_reducible apply Below.drew | with_reducible apply bdN | with_reducible refine Below.alloc ?_ (by first | exact Nat.le_refl _ | with_reducible exact HB.out.size | omega | (simp; done) | (simp; omega) | (have := HB.out.size; simp at *; omega)) _ | with_reducible refine Below.setCell ?_ (by first | exact Nat.le_refl _ | with_reducible exact HB.out.size | omega | (simp; done) | (simp; omega) | (have := HB.out.size; simp at *; omega)) _)) b)
      have HM := Lib.hid (PM.below (by repeat (first | with_reducible exact HM.out | with_reducible apply PM.drewN | with_reducible apply PM.drew | with_reducible apply PM.alloc)) b)
      have HU := Lib.hid (OwnA2.below (by repeat (first | with_reducible exact HU.out | with_reducible apply OwnA2.drewN | with_reducible apply OwnA2.drew | with_reducible apply OwnA2.alloc)) b)
      have K5 := Lib.hid (VB.below (by repeat (first | with_reducible exact K5.out | with_reducible apply VB.drewN | with_reducible apply VB.drew | with_reducible apply VB.alloc)) b)
      clear b
      clear d0 d1
      go_upto_region 6 with fail
      obtain ⟨w6, ew, b⟩ : ∃ wOPN : World, wOPN = (w5.alloc c.obj) ∧ Below ((w5.alloc c.obj)).heap.size ((w5.alloc c.obj)) wOPN := ⟨_, rfl, Below.refl _ _⟩
      rw [← ew]
      clear ew
      have Sw6 := Lib.hid b.size
      have HB := Lib.hid (chain0 (w := w) (by repeat (first | with_reducible exact Below.refl _ _ | with_reducible exact HB.out | with_reducible apply Below.drew | with_reducible apply bdN | with_reducible refine Below.alloc ?_ (by first | exact Nat.le_refl _ | with_reducible exact HB.out.size | omega | (simp; done) | (simp; omega) | (have := HB.out.size; simp at *; omega)) _ | with_reducible refine Below.setCell ?_ (by first | exact Nat.le_refl _ | with_reducible exact HB.out.size | omega | (simp; done) | (simp; omega) | (have := HB.out.size; simp at *; omega)) _)) b)
      have HM := Lib.hid (PM.below (by repeat (first | with_reducible exact HM.out | with_reducible apply PM.drewN | with_reducible apply PM.drew | with_reducible apply PM.alloc)) b)
      have HU := Lib.hid (OwnA2.below (by repeat (first | with_reducible exact HU.out | with_reducible apply OwnA2.drewN | with_reducible apply OwnA2.drew | with_reducible apply OwnA2.alloc)) b)
      have K5 := Lib.hid (VB.below (by repeat (first | with_reducible exact K5.out | with_reducible apply VB.drewN | with_reducible apply VB.drew | with_reducible apply VB.alloc)) b)
      have K6 : Hid (Box _ (w5.heap.size) (c)) := Lib.hid (Box.below (by repeat (first | with_reducible exact K6.out | with_reducible apply Box.drewN | with_reducible apply Box.drew | (with_reducible refine Box.newAt ?_ ?_ <;> first | (simp; done) | rfl) | with_reducible apply Box.alloc)) b)
      try clear k6a k6b k6c k6d k6z
      have k6z := K6.out.lt
      obtain ⟨k6a, k6b, k6c, k6d⟩ := K6.out.cell
      clear b
      have d0 := VB.at_ K5.out (j := 0) rfl
      have d1 := VB.at_ K5.out (j := 1) rfl
      obtain ⟨V, v1, v2, v3, v4, v5⟩ := HM.out.alloc (A2.mk i j).obj
      obtain ⟨st, w7, hrun, hg7, hs7, hst⟩ := mapV_entry v1 (by simp only [maxLen]; omega) HC.out
      have HV5 := Lib.hid v5
      have hgl : g < w6.heap.size := HM.out.lt
      have HO7 := Lib.hid (fun x hx => OwnA2.off (v2 x hx) hg7 v5)
      have HV3 := Lib.hid v3
      have HV4 := Lib.hid v4
      have hq7 : w7.heap[w6.heap.size]? = some (A2.mk i j).obj := (hg7.block w6.heap.size (by simp) (fun e => by injection e with e; omega)).trans (heap_alloc_new w6 _)
      have hz7 : w7.heap.size = w6.heap.size + 1 := by rw [hs7]; simp
      have HHs : Hid (∀ (w8 : World) (v1 : Value), w7.grownBy w8 (V c).ownBlock → ∃ w9, (Instr.entryStore 76 (.map (some g)) (goInt st) v1).run Try.prog w8 = .ok () w9 ∧ MapV w9 g (k + 1) (putV V c v1) ∧ w8.grownBy w9 (some g)) := Lib.hid (fun w8 v1 hG => hst w8 v1 (hG.block g (by omega) (fun e => by
        have h1 := ((HO7.out c HC.out).span g e.symm).1
        omega)))
      have HQ7 := Lib.hid hq7
      have HZ7 := Lib.hid hz7
      have HBz := Lib.hid HB.out.size
      have hB7 : Below w6.heap.size w6 w7 ∨ True := .inr trivial
      have HG67 : Hid ((w6.alloc (A2.mk i j).obj).grownBy w7 (some g)) := Lib.hid hg7
      have HUz := Lib.hid (OwnA2.span HU.out)
      have HU7 := Lib.hid (OwnA2.off (OwnA2.alloc HU.out (A2.mk i j).obj) hg7 v5)
      have HB7 : Hid (Below w.heap.size w w7) := Lib.hid (Below.grown (Below.alloc HB.out HB.out.size _) hg7 (by simp; have := HB.out.size; omega) (fun q hq => by injection hq with hq; have := HGe.out; omega))
      have HgB := Lib.hid (show g + 1 ≤ w7.heap.size by omega)
      clear v1 v2 v3 v4 v5 hg7 hs7 hst hq7 hz7 hgl hB7
      go_upto_region 7 with (first | ((with_reducible refine take_entry rfl _ _ rfl ?_ ?_ hrun ?_); rfl; rfl) | (at_builtin; refine append_A2_in rfl (.tmp 21) (.tmp 23) rfl (g + 1) (V c) (by3 l (P.take k) c) ⟨(i : Int), (j : Int)⟩ w7 _ HQ7.out rfl rfl (HO7.out c HC.out) (by have := HLn.out c; omega) HgB.out ?_; intro v8 w8 hO8 hB8 hG8 hA8; obtain ⟨w9, hr9, hM9, hg9⟩ := HHs.out w8 v8 hG8) | ((with_reducible refine take_entryStore rfl _ _ _ rfl ?_ ?_ ?_ hr9 ?_); rfl; rfl; rfl))
      have HM9 := Lib.hid (PM.ext (PM.step HC.out hM9 (fun x hx => HO7.out x hx) HV3.out HV4.out HV5.out (fun q hq => by have := (HUz.out q hq).2; have := HZ7.out; omega) hO8 hG8 hA8 hg9) (fun x _ => HSt.out x))
      have HU9 : Hid (OwnA2 w9 (g + 1) (.slice (some ⟨bu, ou, none⟩) np cu) P) := Lib.hid (OwnA2.off (OwnA2.past HU7.out hG8 (HV4.out c HC.out)) hg9 HV5.out)
      have HB9 : Hid (Below w.heap.size w w9) := Lib.hid (Below.grown (Below.grown HB7.out hG8 HB7.out.size (fun q hq => by have h1 := ((HO7.out c HC.out).span q hq).1; have := HGe.out; omega)) hg9 (by have h1 := HB7.out.size; have h2 := hB8.size; omega) (fun q hq => by injection hq with hq; have := HGe.out; omega))
      clear hO8 hB8 hG8 hA8 hr9 hM9 hg9 hrun
      go_wp2_with fail
      go_roundw
      case rel => exact ⟨k + 1, by omega, by go_num, HM9, HU9, HB9⟩
      case measure => simp [intOf]; omega
    · obtain rfl : k = np := by omega
      have HF : Hid (P.take k = P) := Lib.hid (by rw [← HNp.out, List.take_length])
      rw [HF.out] at HM
      obtain ⟨V, v1, v2, v3, v4, v5⟩ := HM.out
      have HR : Hid (PM wr (g + 1) g k nilv (by3 l P)) := Lib.hid ⟨V, v1, v2, v3, fun x hx => Ap.symm ap_nil, v5⟩
      clear v1 v2 v3 v4 v5
      go_wp2_with fail
      go_ret
      exact ⟨g, k, rfl, HR.out, Nat.le_of_eq HGe.out, HB.out⟩
end Go.Proofs.Ytjmlefcmhjodeaa.others

/- ghostsIn. -/
namespace Go.Proofs.Ytjmlefcmhjodeaa.others
open Go.RowKit
open Go.Maps (Keyed)
open cards reg
set_option linter.unusedVariables false

set_option maxRecDepth 100000 in
set_option maxHeartbeats 8000000 in
theorem ghosts_in (l : List Cd) (p : Option Addr) (n cp : Nat) (wo : World) (hn : l.length = n) (hl : n ≤ 10) (hr : Rd wo p (flat l)) (hok : l.all Cd.ok = true) (hs : sorted l) :
    Calls Try.prog 79 #[.slice p n cp] wo fun e w' => ∃ u, e = .returned u ∧ OwnA6 w' wo.heap.size u (allG l) ∧ Below wo.heap.size wo w' := by
  have HN := Lib.hid hn
  have HR0 := Lib.hid hr
  have HK := Lib.hid hok
  have HPP := Lib.hid (fun w => place_pairs n w (by omega))
  have HPB := Lib.hid (fun w h => pairs_by l p n cp w hn (by omega) h hok)
  have HPl : Hid ((pAll n).length ≤ 100) := Lib.hid (by have h1 := pAll_len n; have h2 : n * n ≤ 10 * 10 := Nat.mul_le_mul hl hl; omega)
  have HPm := Lib.hid (fun q hq => (pAll_mem (p := q) (m := n)).1 hq)
  have HSk : Hid (∀ g, g ∈ allS l (pAll n) (pAll n).length ↔ gOK l g) := Lib.hid (fun g => by subst hn; exact allS_ok hs hok)
  have HGS := Lib.hid (fun K Q a b c d => ghosts_sorted (l := l) hs hok (K := K) (Q := Q) a b c d)
  have HSm := Lib.hid (fun g h => gOK_sm (l := l) (by omega) (g := g) h)
  have HTk := Lib.hid (fun p q g a b c d => tG_ok (l := l) (p := p) (q := q) (g := g) a b c d)
  rw [hn] at HTk
  have hmm := @run_makeMap Try.prog
  clear hn hr hok hs
  generalize pAll n = P at *
  go_enter Try.func79, Try.ntmps79
  go_wp2_with fail
  refine (HPP.out _).mono ?_
  rintro e w1 ⟨u, rfl, hu, b1⟩
  go_wp2_with fail
  refine (HPB.out _ (HR0.out.below b1)).mono ?_
  rintro e w ⟨gb, mb, rfl, hPM, hgb, b2⟩
  have HU := Lib.hid (hu.below b2)
  have HBo := Lib.hid (b1.trans (b2.mono b1.size))
  have HR1 := Lib.hid (HR0.out.below HBo.out)
  obtain ⟨V, v1, v2, v3, v4, v5⟩ := hPM
  have HV1 := Lib.hid v1
  have HV2 := Lib.hid v2
  obtain ⟨pu, cu, rfl, hcu, _, _⟩ := hu.form
  obtain ⟨np, hnp⟩ : ∃ np, P.length = np := ⟨_, rfl⟩
  have HNp := Lib.hid hnp
  rw [hnp] at HPl HU HSk hcu ⊢
  have HCu := Lib.hid (fun (k : Nat) (h : k ≤ np) => Nat.le_trans h hcu)
  clear hcu hnp hu b1 b2 v1 v2 v3 v4 v5 hgb HPP HPB
  have hpl : np ≤ 100 := HPl.out
  have HM0 := Lib.hid (MapG.made w)
  have HB : Hid (Below w.heap.size w (w.alloc (.map #[] 0))) := Lib.hid ((Below.refl _ _).alloc (Nat.le_refl _) _)
  go_upto_region 3 with fail
  generalize w.alloc (.map #[] 0) = W at *
  obtain ⟨gf, hgf⟩ : ∃ g, w.heap.size = g := ⟨_, rfl⟩
  have HGf := Lib.hid hgf
  rw [hgf] at HM0
  try rw [hgf]
  clear hgf
  go_wp2_with fail
  go_loopw [6, 7, 9, 10, 11, 13, 14, 23] (fun _ _ _ _ _ _ _ i wr => ∃ k : Nat, k ≤ np ∧ i = .int .i64 k ∧ Hid (MapG wr gf (allS l P k).length (allS l P k)) ∧ Hid (Below w.heap.size w wr)) (fun _ _ _ _ _ _ _ i _ => np - (intOf i).toNat)
  case atStart => exact ⟨0, Nat.zero_le _, rfl, HM0, HB⟩
  case round =>
    clear HM0 HB
    obtain ⟨k, hk, rfl, HM, HB⟩ := hrel
    have m0 : (0 : Int) ≤ (k : Int) := by omega
    by_cases hlt : k < np
    · have m1 : (k : Int) < (np : Int) := by omega
      obtain ⟨bu, ou, a, rfl, hbu, ha, c0, c1⟩ := (HU.out.below HB.out).rd.aA2 (k := k) (by rw [HNp.out]; exact hlt)
      have HA := Lib.hid ha
      have HSt := Lib.hid (allS_step (l := l) ha)
      have HAm := Lib.hid (List.mem_of_getElem? ha)
      clear ha
      obtain ⟨a1, a2, ha12, ha2n, rfl⟩ := HPm.out a HAm.out
      have HTa := Lib.hid (fun w h => third_at l p n cp a1 a2 w HN.out h HK.out (by omega) ha2n)
      have HMl := Lib.hid HM.out.lt
      go_upto_region 6 with fail
      have K7 : Hid (VB (wr.alloc (A2.mk a1 a2).obj) wr.heap.size 79 (pv ⟨a1, a2⟩)) := Lib.hid (VB.newAt rfl rfl)
      have b : Below wr.heap.size wr (wr.alloc (A2.mk a1 a2).obj) := (Below.refl _ _).alloc (Nat.le_refl _) _
      clear c0 c1
      generalize wr.alloc (A2.mk a1 a2).obj = w4 at *
      have Sw4 := Lib.hid b.size
      have HB := Lib.hid (chain0 (w := w) (by repeat (first | with_reducible exact Below.refl _ _ | with_reducible exact HB.out | with_reducible apply Below.drew | with_reducible apply bdN | with_reducible refine Below.alloc ?_ (by first | exact Nat.le_refl _ | with_reducible exact HB.out.size | omega | (simp; done) | (simp; omega) | (have := HB.out.size; simp at *; omega)) _ | with_reducible refine Below.setCell ?_ (by first | exact Nat.le_refl _ | with_reducible exact HB.out.size | omega | (simp; done) | (simp; omega) | (have := HB.out.size; simp at *; omega)) _)) b)
      have HM := Lib.hid (MapG.below (by repeat (first | with_reducible exact HM.out | with_reducible apply MapG.drewN | with_reducible apply MapG.drew | with_reducible apply MapG.alloc)) b)
      clear b
      obtain ⟨g7, hg7⟩ : ∃ g7, wr.heap.size = g7 := ⟨_, rfl⟩
      rw [hg7] at K7
      try rw [hg7]
      have HG7 := Lib.hid (show gf < g7 by rw [← hg7]; exact HMl.out)
      clear hg7
      have HU4 := Lib.hid (HU.out.below HB.out)
      have HMl4 := Lib.hid HM.out.lt
      have HK7l := Lib.hid K7.out.lt
      refine region_BI [(true, 0), (true, 1), (true, 2), (true, 3), (true, 6), (false, 4), (true, 5)] (by kernel_rfl) rfl (by kernel_rfl) ?_
      refine chain_pure 28 (v := .slice (some ⟨bu, ou, none⟩) np cu) rfl rfl rfl (fun w => by kernel_rfl) ?_
      refine chain_pure 29 (v := .int .i64 k) rfl rfl rfl (fun w => by kernel_rfl) ?_
      refine chain_pure 30 (v := .slice (some ⟨bu, ou, none⟩) k cu) rfl rfl rfl (exec_to (n := np) (HCu.out k (by omega)) rfl (by kernel_rfl) (by kernel_rfl)) ?_
      refine chain_pure 31 (v := .slice (some ⟨g7, 0, none⟩) 2 2) rfl rfl rfl (fun w => by kernel_rfl) ?_
      refine chain_pure 34 (v := .int .i64 0) rfl rfl rfl (fun w => by kernel_rfl) ?_
      refine chain_callE 32 rfl rfl rfl (fun w => by kernel_rfl) (fun wy hy => (pairs_without (P.take k) [(a1 : Int), (a2 : Int)] (some ⟨bu, ou, none⟩) (some ⟨g7, 0, none⟩) k cu 2 2 wy (by rw [List.length_take, HNp.out]; omega) (by have := HPl.out; omega) (rd_take2 (HU4.out.rd.below hy) k) rfl (by omega) (rd_pair (K7.out.below hy))).mono ?_)
      rintro e wz ⟨u, rfl, hu, b9⟩
      refine ⟨_, rfl, b9, fun w' => BI w4 w' ∧ OwnA2 w' w4.heap.size u ((P.take k).filter (freeP [(a1 : Int), (a2 : Int)])), ⟨fun _ h => h.1, fun _ h => h.1.size, fun _ h => ⟨Below.alloc h.1 h.1.size _, h.2.alloc _⟩⟩, ⟨BI.next hy b9, OwnA2.base hu hy.size⟩, ?_⟩
      obtain ⟨p2, c2, rfl, hc2, hr2, hx2⟩ := hu.form
      obtain ⟨n2, hn2⟩ : ∃ n2, ((P.take k).filter (freeP [(a1 : Int), (a2 : Int)])).length = n2 := ⟨_, rfl⟩
      rw [hn2]
      have HN2 := Lib.hid hn2
      clear hy b9 hu hc2 hr2 hn2 hx2
      refine chain_pure 33 (v := .int .i64 n2) rfl rfl rfl (fun w => by kernel_rfl) ?_
      clear wy wz
      rintro w5 ⟨b, hu⟩
      simp only [Act.put, List.setIfInBounds_toArray, List.set_cons_zero, List.set_cons_succ]
      have b : Below w4.heap.size w4 w5 := b
      have Sw5 := Lib.hid b.size
      have HB := Lib.hid (chain0 (w := w) (by repeat (first | with_reducible exact Below.refl _ _ | with_reducible exact HB.out | with_reducible apply Below.drew | with_reducible apply bdN | with_reducible refine Below.alloc ?_ (by first | exact Nat.le_refl _ | with_reducible exact HB.out.size | omega | (simp; done) | (simp; omega) | (have := HB.out.size; simp at *; omega)) _ | with_reducible refine Below.setCell ?_ (by first | exact Nat.le_refl _ | with_reducible exact HB.out.size | omega | (simp; done) | (simp; omega) | (have := HB.out.size; simp at *; omega)) _)) b)
      have HM := Lib.hid (MapG.below (by repeat (first | with_reducible exact HM.out | with_reducible apply MapG.drewN | with_reducible apply MapG.drew | with_reducible apply MapG.alloc)) b)
      have K7 := Lib.hid (VB.below (by repeat (first | with_reducible exact K7.out | with_reducible apply VB.drewN | with_reducible apply VB.drew | with_reducible apply VB.alloc)) b)
      clear b
      obtain ⟨gB, hgB⟩ : ∃ gB, w4.heap.size = gB := ⟨_, rfl⟩
      have HgB := Lib.hid (show gf < gB ∧ g7 < gB by rw [← hgB]; exact ⟨HMl4.out, HK7l.out⟩)
      rw [hgB] at hu
      have HO2 := Lib.hid hu
      clear hu hgB HU4 HMl4 HK7l
      generalize hF2 : (P.take k).filter (freeP [(a1 : Int), (a2 : Int)]) = F2 at *
      have HF2 := Lib.hid (fun q (h : q ∈ F2) => show q ∈ P ∧ freeP [(a1 : Int), (a2 : Int)] q = true from by
        rw [← hF2] at h
        obtain ⟨h1, h2⟩ := List.mem_filter.1 h
        exact ⟨List.mem_of_mem_take h1, h2⟩)
      have HS1 : Hid (allS l P (k + 1) = allS l P k ++ F2.flatMap (tG l P ⟨a1, a2⟩)) := Lib.hid (by rw [HSt.out]; unfold sG; rw [hF2])
      have HLf : Hid (F2.length ≤ 100) := Lib.hid (by rw [← hF2]; exact Nat.le_trans (List.length_filter_le _ _) (by rw [List.length_take]; have := HPl.out; omega))
      have HLa : Hid ((allS l P k).length ≤ 1000000) := Lib.hid (by
        have h1 := allS_len l P k
        have h2 : P.length * P.length ≤ 100 * 100 := Nat.mul_le_mul (by rw [HNp.out]; exact HPl.out) (by rw [HNp.out]; exact HPl.out)
        have h3 : k * (P.length * P.length) ≤ 100 * (100 * 100) := Nat.mul_le_mul (by have := HPl.out; omega) h2
        omega)
      have hn2 : n2 ≤ 100 := by have := HLf.out; rw [HN2.out] at this; exact this
      clear hF2 HSt
      generalize allS l P k = base at *
      go_wp2_with fail
      go_loopw [9, 10, 11, 13, 14, 34] (fun _ _ _ _ _ i wr => ∃ j : Nat, j ≤ n2 ∧ i = .int .i64 j ∧ Hid (MapG wr gf (base ++ (F2.take j).flatMap (tG l P ⟨a1, a2⟩)).length (base ++ (F2.take j).flatMap (tG l P ⟨a1, a2⟩))) ∧ Hid (OwnA2 wr gB (.slice p2 n2 c2) F2) ∧ Hid (VB wr g7 79 (pv ⟨a1, a2⟩)) ∧ Hid (Below w.heap.size w wr)) (fun _ _ _ _ _ i _ => n2 - (intOf i).toNat)
      case atStart => exact ⟨0, Nat.zero_le _, rfl, by simpa using HM, HO2, K7, HB⟩
      case round =>
        clear HM HO2 K7 HB
        obtain ⟨j, hj, rfl, HM, HO2, K7, HB⟩ := hrel
        have j0 : (0 : Int) ≤ (j : Int) := by omega
        by_cases hjt : j < n2
        · have j1 : (j : Int) < (n2 : Int) := by omega
          obtain ⟨b2, o2, q, rfl, hb2, hq, c0, c1⟩ := HO2.out.rd.aA2 (k := j) (by rw [HN2.out]; exact hjt)
          have HQ := Lib.hid (HF2.out q (List.mem_of_getElem? hq))
          have HStj : Hid (base ++ (F2.take (j + 1)).flatMap (tG l P ⟨a1, a2⟩) = (base ++ (F2.take j).flatMap (tG l P ⟨a1, a2⟩)) ++ tG l P ⟨a1, a2⟩ q) := Lib.hid (by rw [take_snoc hq, List.flatMap_append, List.flatMap_singleton, List.append_assoc])
          have HLb : Hid ((base ++ (F2.take j).flatMap (tG l P ⟨a1, a2⟩)).length ≤ 1010000) := Lib.hid (by
            have h1 := flat_bd2 (fun q => tG_len l P ⟨a1, a2⟩ q) (F2.take j)
            have h2 : (F2.take j).length * P.length ≤ 100 * 100 := Nat.mul_le_mul (by rw [List.length_take]; have := HLf.out; omega) (by rw [HNp.out]; exact HPl.out)
            have := HLa.out
            rw [List.length_append]; omega)
          clear hq
          generalize base ++ (F2.take j).flatMap (tG l P ⟨a1, a2⟩) = base2 at *
          obtain ⟨q1, q2, hq12, hq2n, rfl⟩ := HPm.out q HQ.out.1
          have HTb := Lib.hid (fun w h => third_at l p n cp q1 q2 w HN.out h HK.out (by omega) hq2n)
          go_upto_region 9 with fail
          have K9 : Hid (VB (wr.alloc (A2.mk q1 q2).obj) wr.heap.size 79 (pv ⟨q1, q2⟩)) := Lib.hid (VB.newAt rfl rfl)
          have b : Below wr.heap.size wr (wr.alloc (A2.mk q1 q2).obj) := (Below.refl _ _).alloc (Nat.le_refl _) _
          have HMl := Lib.hid HM.out.lt
          clear c0 c1
          generalize wr.alloc (A2.mk q1 q2).obj = w6 at *
          have Sw6 := Lib.hid b.size
          have HB := Lib.hid (chain0 (w := w) (by repeat (first | with_reducible exact Below.refl _ _ | with_reducible exact HB.out | with_reducible apply Below.drew | with_reducible apply bdN | with_reducible refine Below.alloc ?_ (by first | exact Nat.le_refl _ | with_reducible exact HB.out.size | omega | (simp; done) | (simp; omega) | (have := HB.out.size; simp at *; omega)) _ | with_reducible refine Below.setCell ?_ (by first | exact Nat.le_refl _ | with_reducible exact HB.out.size | omega | (simp; done) | (simp; omega) | (have := HB.out.size; simp at *; omega)) _)) b)
          have HM := Lib.hid (MapG.below (by repeat (first | with_reducible exact HM.out | with_reducible apply MapG.drewN | with_reducible apply MapG.drew | with_reducible apply MapG.alloc)) b)
          have HO2 := Lib.hid (OwnA2.below (by repeat (first | with_reducible exact HO2.out | with_reducible apply OwnA2.drewN | with_reducible apply OwnA2.drew | with_reducible apply OwnA2.alloc)) b)
          have K7 := Lib.hid (VB.below (by repeat (first | with_reducible exact K7.out | with_reducible apply VB.drewN | with_reducible apply VB.drew | with_reducible apply VB.alloc)) b)
          clear b
          obtain ⟨g9, hg9⟩ : ∃ g9, wr.heap.size = g9 := ⟨_, rfl⟩
          rw [hg9] at K9 HMl
          try rw [hg9]
          clear hg9
          have HR6 := Lib.hid (Rd.below HR1.out HB.out)
          have HTG : Hid (tG l P ⟨a1, a2⟩ ⟨q1, q2⟩ = if same (th l ⟨a1, a2⟩) (th l ⟨q1, q2⟩) = true then [] else ((by3 l P (third (th l ⟨a1, a2⟩) (th l ⟨q1, q2⟩))).filter (freeP [(a1 : Int), (a2 : Int), (q1 : Int), (q2 : Int)])).map fun r => srt6 (p6 ⟨a1, a2⟩ ⟨q1, q2⟩ r)) := Lib.hid rfl
          have HAo := Lib.hid (th_ok l ⟨a1, a2⟩)
          have HBo := Lib.hid (th_ok l ⟨q1, q2⟩)
          obtain ⟨A, hA⟩ : ∃ A, th l ⟨(a1 : Int), (a2 : Int)⟩ = A := ⟨_, rfl⟩
          obtain ⟨B, hB⟩ : ∃ B, th l ⟨(q1 : Int), (q2 : Int)⟩ = B := ⟨_, rfl⟩
          rw [hA, hB] at HTG
          rw [hA] at HTa HAo
          rw [hB] at HTb HBo
          refine region_two [(true, 0), (true, 1), (true, 3), (true, 4), (false, 2), (false, 5)] 6 7 10 11 [8, 9] _ _ zero.obj zero.obj w6.heap.size (BI w6) (BI w6) (by kernel_rfl) (by kernel_rfl) rfl (by kernel_rfl) (by decide) rfl rfl rfl (fun a w => by kernel_rfl) rfl rfl rfl (fun a w => by kernel_rfl) (clo2_BI w6 _ _) (BI.start w6) ?_
          refine t_read 38 (v := .slice p n cp) rfl rfl rfl (fun w _ => by kernel_rfl) ?_
          refine t_read 39 (v := .agg (pv ⟨a1, a2⟩)) rfl rfl rfl (fun w' h => exec_cell rfl (by kernel_rfl) (load_pair (K7.out.below h))) ?_
          refine t_read 41 (v := .slice p n cp) rfl rfl rfl (fun w _ => by kernel_rfl) ?_
          refine t_read 42 (v := .agg (pv ⟨q1, q2⟩)) rfl rfl rfl (fun w' h => exec_cell rfl (by kernel_rfl) (load_pair (K9.out.below h))) ?_
          refine t_call 40 (v := A.val) rfl rfl rfl (fun w => by kernel_rfl) (fun w0 h0 => HTa.out w0 (HR6.out.below h0)) ?_
          refine t_call 43 (v := B.val) rfl rfl rfl (fun w => by kernel_rfl) (fun w0 h0 => HTb.out w0 (HR6.out.below h0)) ?_
          intro w7 g10 g11 hI n10 n11 hne b10 b11
          have B10 : Box w7 g10 zero := b10
          have B11 : Box w7 g11 zero := b11
          have B10' : Box (w7.setCells g10 0 (cvc A).toList) g10 A := box_setsC B10
          have B11' : Box (w7.setCells g10 0 (cvc A).toList) g11 zero := box_pastC B11 _ (Ne.symm hne)
          have hS1 : BI w6 (w7.setCells g10 0 (cvc A).toList) := Below.grown hI (grown_setsV g10 _ _ _) (Below.size hI) (fun k hk => by injection hk with hk; omega)
          have hS2 : BI w6 ((w7.setCells g10 0 (cvc A).toList).setCells g11 0 (cvc B).toList) := Below.grown hS1 (grown_setsV g11 _ _ _) (Below.size hS1) (fun k hk => by injection hk with hk; omega)
          refine ⟨_, _, undef, rfl, rfl, .inr ⟨exec_storeV (T := 25) (cs := cvc zero) (cs2 := cvc A) B10 (by kernel_rfl) rfl (cvc_one A) rfl (by kernel_rfl) (by kernel_rfl), rfl⟩, hS1, ?_⟩
          refine ⟨_, _, undef, rfl, rfl, .inr ⟨exec_storeV (T := 25) (cs := cvc zero) (cs2 := cvc B) B11' (by kernel_rfl) rfl (cvc_one B) rfl (by kernel_rfl) (by kernel_rfl), rfl⟩, hS2, ?_⟩
          have K10 : Hid (Box ((w7.setCells g10 0 (cvc A).toList).setCells g11 0 (cvc B).toList) g10 A) := Lib.hid (box_pastC B10' _ hne)
          have K11 : Hid (Box ((w7.setCells g10 0 (cvc A).toList).setCells g11 0 (cvc B).toList) g11 B) := Lib.hid (box_setsC B11')
          have b : Below w6.heap.size w6 ((w7.setCells g10 0 (cvc A).toList).setCells g11 0 (cvc B).toList) := hS2
          clear hI b10 b11 B10 B11 B10' B11' hS1 hS2
          show Exit.then _ _ _ _ _
          generalize (w7.setCells g10 0 (cvc A).toList).setCells g11 0 (cvc B).toList = w8 at *
          simp only [Act.put, List.setIfInBounds_toArray, List.set_cons_zero, List.set_cons_succ]
          unfold ptr
          have Sw8 := Lib.hid b.size
          have HB := Lib.hid (chain0 (w := w) (by repeat (first | with_reducible exact Below.refl _ _ | with_reducible exact HB.out | with_reducible apply Below.drew | with_reducible apply bdN | with_reducible refine Below.alloc ?_ (by first | exact Nat.le_refl _ | with_reducible exact HB.out.size | omega | (simp; done) | (simp; omega) | (have := HB.out.size; simp at *; omega)) _ | with_reducible refine Below.setCell ?_ (by first | exact Nat.le_refl _ | with_reducible exact HB.out.size | omega | (simp; done) | (simp; omega) | (have := HB.out.size; simp at *; omega)) _)) b)
          have HM := Lib.hid (MapG.below (by repeat (first | with_reducible exact HM.out | with_reducible apply MapG.drewN | with_reducible apply MapG.drew | with_reducible apply MapG.alloc)) b)
          have HO2 := Lib.hid (OwnA2.below (by repeat (first | with_reducible exact HO2.out | with_reducible apply OwnA2.drewN | with_reducible apply OwnA2.drew | with_reducible apply OwnA2.alloc)) b)
          have K7 := Lib.hid (VB.below (by repeat (first | with_reducible exact K7.out | with_reducible apply VB.drewN | with_reducible apply VB.drew | with_reducible apply VB.alloc)) b)
          have K9 := Lib.hid (VB.below (by repeat (first | with_reducible exact K9.out | with_reducible apply VB.drewN | with_reducible apply VB.drew | with_reducible apply VB.alloc)) b)
          clear b
          obtain ⟨x0, x1, x2, x3⟩ := K10.out.cell
          obtain ⟨y0, y1, y2, y3⟩ := K11.out.cell
          have he := eq_run A B HAo.out HBo.out
          cases hsm : same A B
          · rw [hsm] at he
            go_upto_region 11 with fail
            clear x0 x1 x2 x3 y0 y1 y2 y3
            rw [hsm, if_neg (by simp)] at HTG
            clear hsm he
            have HCo := Lib.hid (third_ok A B)
            have HTO := Lib.hid (fun w => third_of A B w HAo.out HBo.out)
            obtain ⟨C, hC⟩ : ∃ C, third A B = C := ⟨_, rfl⟩
            rw [hC] at HTG HCo HTO
            obtain ⟨pv3, cv3, hv3, hcv3, hrv3, hxv3⟩ := (HV2.out C HCo.out).form
            have HVr : Hid (∀ w', BI w8 w' → Rd w' pv3 (A2.flat (by3 l P C))) := Lib.hid (fun w' h => by
              have h2 := (HV2.out C HCo.out).below (HB.out.trans (Below.mono h HB.out.size))
              rw [hv3] at h2
              exact h2.rd)
            have HVm : Hid (∀ w', BI w8 w' → (Instr.lookup 76 (.map (some gb)) C.val false).run Try.prog w' = .ok (.slice pv3 (by3 l P C).length cv3) w') := Lib.hid (fun w' h => by
              have h2 := mapV_look (HV1.out.below (HB.out.trans (Below.mono h HB.out.size))) HCo.out
              rw [hv3] at h2
              exact h2)
            have HLc : Hid ((by3 l P C).length ≤ 100) := Lib.hid (Nat.le_trans (List.length_filter_le _ _) (by rw [HNp.out]; exact HPl.out))
            clear hC hv3 hcv3 hrv3 hxv3
            refine region_any (BI w8) 17 (by kernel_rfl) rfl ?_
            refine take_p 0 47 (v := .map (some gb)) rfl rfl rfl (by kernel_rfl) (by kernel_rfl) (by kernel_rfl) (fun w' h => by kernel_rfl) (BI.start w8) ?_
            refine take_p 1 48 (v := A.val) rfl rfl rfl (by kernel_rfl) (by kernel_rfl) (by kernel_rfl) (fun w' h => exec_cell rfl (by kernel_rfl) (load_card (K10.out.below h))) (BI.start w8) ?_
            refine take_p 2 49 (v := B.val) rfl rfl rfl (by kernel_rfl) (by kernel_rfl) (by kernel_rfl) (fun w' h => exec_cell rfl (by kernel_rfl) (load_card (K11.out.below h))) (BI.start w8) ?_
            refine take_p 5 52 (v := .pointer (some ⟨g7, 0, none⟩)) rfl rfl rfl (by kernel_rfl) (by kernel_rfl) (by kernel_rfl) (fun w' h => by kernel_rfl) (BI.start w8) ?_
            refine take_p 6 53 (v := .int .i64 a1) rfl rfl rfl (by kernel_rfl) (by kernel_rfl) (by kernel_rfl) (fun w' h => exec_cell rfl (by kernel_rfl) (load_cell (VB.at_ (K7.out.below h) (j := 0) rfl))) (BI.start w8) ?_
            refine take_p 7 54 (v := .pointer (some ⟨g7, 1, none⟩)) rfl rfl rfl (by kernel_rfl) (by kernel_rfl) (by kernel_rfl) (fun w' h => by kernel_rfl) (BI.start w8) ?_
            refine take_p 8 55 (v := .int .i64 a2) rfl rfl rfl (by kernel_rfl) (by kernel_rfl) (by kernel_rfl) (fun w' h => exec_cell rfl (by kernel_rfl) (load_cell (VB.at_ (K7.out.below h) (j := 1) rfl))) (BI.start w8) ?_
            refine take_p 9 56 (v := .pointer (some ⟨g9, 0, none⟩)) rfl rfl rfl (by kernel_rfl) (by kernel_rfl) (by kernel_rfl) (fun w' h => by kernel_rfl) (BI.start w8) ?_
            refine take_p 10 57 (v := .int .i64 q1) rfl rfl rfl (by kernel_rfl) (by kernel_rfl) (by kernel_rfl) (fun w' h => exec_cell rfl (by kernel_rfl) (load_cell (VB.at_ (K9.out.below h) (j := 0) rfl))) (BI.start w8) ?_
            refine take_p 11 58 (v := .pointer (some ⟨g9, 1, none⟩)) rfl rfl rfl (by kernel_rfl) (by kernel_rfl) (by kernel_rfl) (fun w' h => by kernel_rfl) (BI.start w8) ?_
            refine take_p 12 59 (v := .int .i64 q2) rfl rfl rfl (by kernel_rfl) (by kernel_rfl) (by kernel_rfl) (fun w' h => exec_cell rfl (by kernel_rfl) (load_cell (VB.at_ (K9.out.below h) (j := 1) rfl))) (BI.start w8) ?_
            refine take_p 16 63 (v := .int .i64 0) rfl rfl rfl (by kernel_rfl) (by kernel_rfl) (by kernel_rfl) (fun w' h => by kernel_rfl) (BI.start w8) ?_
            refine wpAnyH_all (rs := [3, 13]) (by kernel_rfl) (by decide) (fun j hj => ?_)
            rcases (show j = 3 ∨ j = 13 by simpa using hj) with rfl | rfl
            · refine op_call 3 50 rfl rfl rfl (f := 88) (args := #[A.val, B.val]) (by kernel_rfl) ?_
              refine (HTO.out _).mono ?_
              rintro e w9 ⟨rfl, b9⟩
              have B9 : BI w8 w9 := BI.next (BI.start w8) b9
              refine ⟨_, rfl, B9, any_strong (S' := BI w9) (fun w' h => BI.next B9 h) _ _ _ _ ?_⟩
              refine take_p 4 51 (v := .slice pv3 (by3 l P C).length cv3) rfl rfl rfl (by kernel_rfl) (by kernel_rfl) (by kernel_rfl) (fun w' h => exec_look rfl (by kernel_rfl) (by kernel_rfl) (HVm.out w' (BI.next B9 h))) (Below.refl _ _) ?_
              refine wpAnyH_all (rs := [13]) (by kernel_rfl) (by decide) (fun j hj => ?_)
              obtain rfl : j = 13 := by simpa using hj
              refine op_val 13 60 rfl rfl rfl (v := .slice (some ⟨w9.heap.size, 0, none⟩) 4 4) (w' := w9.alloc (ob4 a1 a2 q1 q2)) (by kernel_rfl) ?_
              have bA : Below w9.heap.size w9 (w9.alloc (ob4 a1 a2 q1 q2)) := (Below.refl _ _).alloc (Nat.le_refl _) _
              have BA : BI w8 (w9.alloc (ob4 a1 a2 q1 q2)) := BI.next B9 bA
              refine ⟨bA, any_strong (S' := BI (w9.alloc (ob4 a1 a2 q1 q2))) (fun w' h => BI.next bA h) _ _ _ _ ?_⟩
              refine wpAnyH_all (rs := [14]) (by kernel_rfl) (by decide) (fun j hj => ?_)
              obtain rfl : j = 14 := by simpa using hj
              refine op_call 14 61 rfl rfl rfl (f := 106) (args := #[.slice pv3 (by3 l P C).length cv3, .slice (some ⟨w9.heap.size, 0, none⟩) 4 4]) (by kernel_rfl) ?_
              refine (pairs_without (by3 l P C) [(a1 : Int), (a2 : Int), (q1 : Int), (q2 : Int)] pv3 (some ⟨w9.heap.size, 0, none⟩) (by3 l P C).length cv3 4 4 _ rfl (by have := HLc.out; omega) (HVr.out _ BA) rfl (by omega) (rd_ob4 (heap_alloc_new w9 _))).mono ?_
              rintro e w10 ⟨u, rfl, hu, b10⟩
              have BX : BI w8 w10 := BI.next BA b10
              have hsz := Below.size BA
              refine ⟨_, rfl, b10, any_strong (S' := BI w10) (fun w' h => BI.next b10 h) _ _ _ _ ?_⟩
              obtain ⟨p3, c3, rfl, hc3, hr3, hx3⟩ := hu.form
              have b : Below w8.heap.size w8 w10 := BX
              have hu := OwnA2.base hu hsz
              generalize hF3 : (by3 l P C).filter (freeP [(a1 : Int), (a2 : Int), (q1 : Int), (q2 : Int)]) = F3 at *
              have hn3 : F3.length ≤ 100 := by rw [← hF3]; exact Nat.le_trans (List.length_filter_le _ _) HLc.out
              obtain ⟨n3, hn3e⟩ : ∃ n3, F3.length = n3 := ⟨_, rfl⟩
              rw [hn3e] at hu hn3 ⊢
              have HN3 := Lib.hid hn3e
              refine seq_of [15] _ _ _ (by kernel_rfl) (Below.refl _ _) ⟨_, w10, .int .i64 n3, rfl, rfl, .inl (by kernel_rfl), Below.refl _ _, NoPanic.normal ?_⟩
              change Exit.then _ _ _ (Act.put _ (some 62) (.int .i64 n3)) w10
              simp only [Act.put, List.setIfInBounds_toArray, List.set_cons_zero, List.set_cons_succ]
              have HgC := Lib.hid (show gf < w8.heap.size from Nat.lt_trans HMl.out K9.out.lt)
              have Sw10 := Lib.hid b.size
              have HB := Lib.hid (chain0 (w := w) (by repeat (first | with_reducible exact Below.refl _ _ | with_reducible exact HB.out | with_reducible apply Below.drew | with_reducible apply bdN | with_reducible refine Below.alloc ?_ (by first | exact Nat.le_refl _ | with_reducible exact HB.out.size | omega | (simp; done) | (simp; omega) | (have := HB.out.size; simp at *; omega)) _ | with_reducible refine Below.setCell ?_ (by first | exact Nat.le_refl _ | with_reducible exact HB.out.size | omega | (simp; done) | (simp; omega) | (have := HB.out.size; simp at *; omega)) _)) b)
              have HM := Lib.hid (MapG.below (by repeat (first | with_reducible exact HM.out | with_reducible apply MapG.drewN | with_reducible apply MapG.drew | with_reducible apply MapG.alloc)) b)
              have HO2 := Lib.hid (OwnA2.below (by repeat (first | with_reducible exact HO2.out | with_reducible apply OwnA2.drewN | with_reducible apply OwnA2.drew | with_reducible apply OwnA2.alloc)) b)
              have K7 := Lib.hid (VB.below (by repeat (first | with_reducible exact K7.out | with_reducible apply VB.drewN | with_reducible apply VB.drew | with_reducible apply VB.alloc)) b)
              have K9 := Lib.hid (VB.below (by repeat (first | with_reducible exact K9.out | with_reducible apply VB.drewN | with_reducible apply VB.drew | with_reducible apply VB.alloc)) b)
              clear b
              obtain ⟨gC, hgC⟩ : ∃ gC, w8.heap.size = gC := ⟨_, rfl⟩
              rw [hgC] at hu HgC
              have HO3 := Lib.hid hu
              have HS3 : Hid (∀ r, r ∈ F3 → sm6 (srt6 (p6 ⟨a1, a2⟩ ⟨q1, q2⟩ r))) := Lib.hid (fun r hr => HSm.out _ (HTk.out _ _ _ HAm.out HQ.out.1 HQ.out.2 (by rw [HTG.out]; exact List.mem_map.2 ⟨r, hr, rfl⟩)))
              clear hu hgC hsz BX b10 b9 B9 BA hc3 hr3 hx3 hF3 hn3e HVr HVm
              go_wp2_with fail
              go_loopw [13, 14, 63] (fun _ _ i wr => ∃ t : Nat, t ≤ n3 ∧ i = .int .i64 t ∧ Hid (MapG wr gf (base2 ++ (F3.take t).map fun r => srt6 (p6 ⟨a1, a2⟩ ⟨q1, q2⟩ r)).length (base2 ++ (F3.take t).map fun r => srt6 (p6 ⟨a1, a2⟩ ⟨q1, q2⟩ r))) ∧ Hid (OwnA2 wr gB (.slice (some ⟨b2, o2, none⟩) n2 c2) F2) ∧ Hid (OwnA2 wr gC (.slice p3 n3 c3) F3) ∧ Hid (VB wr g7 79 (pv ⟨a1, a2⟩)) ∧ Hid (VB wr g9 79 (pv ⟨q1, q2⟩)) ∧ Hid (Below w.heap.size w wr)) (fun _ _ i _ => n3 - (intOf i).toNat)
              case atStart => exact ⟨0, Nat.zero_le _, rfl, by simpa using HM, HO2, HO3, K7, K9, HB⟩
              case round =>
                clear HM HO2 HO3 K7 K9 HB
                obtain ⟨t, ht, rfl, HM, HO2, HO3, K7, K9, HB⟩ := hrel
                have t0 : (0 : Int) ≤ (t : Int) := by omega
                by_cases htt : t < n3
                · have t1 : (t : Int) < (n3 : Int) := by omega
                  obtain ⟨b3, o3, r, rfl, hb3, hr, c0, c1⟩ := HO3.out.rd.aA2 (k := t) (by rw [HN3.out]; exact htt)
                  have HSr := Lib.hid (HS3.out r (List.mem_of_getElem? hr))
                  have HStt : Hid (base2 ++ (F3.take (t + 1)).map (fun r => srt6 (p6 ⟨a1, a2⟩ ⟨q1, q2⟩ r)) = (base2 ++ (F3.take t).map fun r => srt6 (p6 ⟨a1, a2⟩ ⟨q1, q2⟩ r)) ++ [srt6 (p6 ⟨a1, a2⟩ ⟨q1, q2⟩ r)]) := Lib.hid (by rw [take_snoc hr, List.map_append, List.map_singleton, List.append_assoc])
                  have HLd : Hid ((base2 ++ (F3.take t).map fun r => srt6 (p6 ⟨a1, a2⟩ ⟨q1, q2⟩ r)).length ≤ 1020000) := Lib.hid (by
                    have := HLb.out
                    rw [List.length_append, List.length_map, List.length_take]; omega)
                  clear hr
                  generalize base2 ++ (F3.take t).map (fun r => srt6 (p6 ⟨a1, a2⟩ ⟨q1, q2⟩ r)) = base3 at *
                  have HFc : Hid (srt6 (f6 ⟨a1, a2, q1, q2, r.a, r.b⟩) = srt6 (p6 ⟨a1, a2⟩ ⟨q1, q2⟩ r)) := Lib.hid rfl
                  generalize srt6 (p6 ⟨a1, a2⟩ ⟨q1, q2⟩ r) = c at *
                  go_upto_region 14 with fail
                  have K13 : Hid (VB (wr.alloc r.obj) wr.heap.size 79 (pv r)) := Lib.hid (VB.newAt rfl rfl)
                  have b : Below wr.heap.size wr (wr.alloc r.obj) := (Below.refl _ _).alloc (Nat.le_refl _) _
                  clear c0 c1
                  generalize wr.alloc r.obj = w11 at *
                  have Sw11 := Lib.hid b.size
                  have HB := Lib.hid (chain0 (w := w) (by repeat (first | with_reducible exact Below.refl _ _ | with_reducible exact HB.out | with_reducible apply Below.drew | with_reducible apply bdN | with_reducible refine Below.alloc ?_ (by first | exact Nat.le_refl _ | with_reducible exact HB.out.size | omega | (simp; done) | (simp; omega) | (have := HB.out.size; simp at *; omega)) _ | with_reducible refine Below.setCell ?_ (by first | exact Nat.le_refl _ | with_reducible exact HB.out.size | omega | (simp; done) | (simp; omega) | (have := HB.out.size; simp at *; omega)) _)) b)
                  have HM := Lib.hid (MapG.below (by repeat (first | with_reducible exact HM.out | with_reducible apply MapG.drewN | with_reducible apply MapG.drew | with_reducible apply MapG.alloc)) b)
                  have HO2 := Lib.hid (OwnA2.below (by repeat (first | with_reducible exact HO2.out | with_reducible apply OwnA2.drewN | with_reducible apply OwnA2.drew | with_reducible apply OwnA2.alloc)) b)
                  have HO3 := Lib.hid (OwnA2.below (by repeat (first | with_reducible exact HO3.out | with_reducible apply OwnA2.drewN | with_reducible apply OwnA2.drew | with_reducible apply OwnA2.alloc)) b)
                  have K7 := Lib.hid (VB.below (by repeat (first | with_reducible exact K7.out | with_reducible apply VB.drewN | with_reducible apply VB.drew | with_reducible apply VB.alloc)) b)
                  have K9 := Lib.hid (VB.below (by repeat (first | with_reducible exact K9.out | with_reducible apply VB.drewN | with_reducible apply VB.drew | with_reducible apply VB.alloc)) b)
                  clear b
                  obtain ⟨g13, hg13⟩ : ∃ g13, wr.heap.size = g13 := ⟨_, rfl⟩
                  rw [hg13] at K13
                  try rw [hg13]
                  clear hg13
                  have e0 := VB.at_ K7.out (j := 0) rfl
                  have e1 := VB.at_ K7.out (j := 1) rfl
                  have e2 := VB.at_ K9.out (j := 0) rfl
                  have e3 := VB.at_ K9.out (j := 1) rfl
                  have e4 := VB.at_ K13.out (j := 0) rfl
                  have e5 := VB.at_ K13.out (j := 1) rfl
                  go_upto_region 15 with fail
                  clear e0 e1 e2 e3 e4 e5 K13
                  go_wp2_with fail
                  refine (sort_b6 ⟨a1, a2, q1, q2, r.a, r.b⟩ w11.heap.size _ (B6.newAt rfl rfl)).mono ?_
                  rintro e w12 ⟨rfl, hbx, hG⟩
                  have b : Below w11.heap.size w11 w12 := Below.grown ((Below.refl _ _).alloc (Nat.le_refl _) _) hG (by simp) (fun k hk => by injection hk with hk; omega)
                  have Sw12 := Lib.hid b.size
                  have HB := Lib.hid (chain0 (w := w) (by repeat (first | with_reducible exact Below.refl _ _ | with_reducible exact HB.out | with_reducible apply Below.drew | with_reducible apply bdN | with_reducible refine Below.alloc ?_ (by first | exact Nat.le_refl _ | with_reducible exact HB.out.size | omega | (simp; done) | (simp; omega) | (have := HB.out.size; simp at *; omega)) _ | with_reducible refine Below.setCell ?_ (by first | exact Nat.le_refl _ | with_reducible exact HB.out.size | omega | (simp; done) | (simp; omega) | (have := HB.out.size; simp at *; omega)) _)) b)
                  have HM := Lib.hid (MapG.below (by repeat (first | with_reducible exact HM.out | with_reducible apply MapG.drewN | with_reducible apply MapG.drew | with_reducible apply MapG.alloc)) b)
                  have HO2 := Lib.hid (OwnA2.below (by repeat (first | with_reducible exact HO2.out | with_reducible apply OwnA2.drewN | with_reducible apply OwnA2.drew | with_reducible apply OwnA2.alloc)) b)
                  have HO3 := Lib.hid (OwnA2.below (by repeat (first | with_reducible exact HO3.out | with_reducible apply OwnA2.drewN | with_reducible apply OwnA2.drew | with_reducible apply OwnA2.alloc)) b)
                  have K7 := Lib.hid (VB.below (by repeat (first | with_reducible exact K7.out | with_reducible apply VB.drewN | with_reducible apply VB.drew | with_reducible apply VB.alloc)) b)
                  have K9 := Lib.hid (VB.below (by repeat (first | with_reducible exact K9.out | with_reducible apply VB.drewN | with_reducible apply VB.drew | with_reducible apply VB.alloc)) b)
                  clear b
                  clear hG
                  rw [HFc.out] at hbx
                  obtain ⟨y0, y1, y2, y3, y4, y5⟩ := hbx.cell
                  go_wp2_with (at_mapUpdate; refine ghost_store rfl _ _ _ rfl gf base3.length base3 rfl HM.out (by have := HLd.out; simp only [maxLen]; omega) c HSr.out rfl rfl ?_; intro w13 hM13 hG13)
                  have hM14 : MapG w13 gf (base3 ++ [c]).length (base3 ++ [c]) := by rw [List.length_append]; exact hM13
                  rw [← HStt.out] at hM14
                  have h2 := OwnA2.off HO2.out hG13 HgB.out.1
                  have h3 := OwnA2.off HO3.out hG13 HgC.out
                  have h7 := VB.marked K7.out hG13 (by have := HG7.out; intro e; injection e with e; omega)
                  have h9 := VB.marked K9.out hG13 (by have := HMl.out; intro e; injection e with e; omega)
                  have hB2 := Below.grown HB.out hG13 HB.out.size (fun q hq => by injection hq with hq; have := HGf.out; omega)
                  go_roundw
                  case rel => exact ⟨t + 1, by omega, by go_num, hM14, h2, h3, h7, h9, hB2⟩
                  case measure => simp [intOf]; omega
                · obtain rfl : t = n3 := by omega
                  have HT3 : Hid (F3.take t = F3) := Lib.hid (by rw [← HN3.out, List.take_length])
                  rw [HT3.out, ← HTG.out, ← HStj.out] at HM
                  go_wp2_with fail
                  go_roundw
                  case rel => exact ⟨j + 1, by omega, by go_num, HM, HO2, K7, HB⟩
                  case measure => simp [intOf]; omega
            · refine op_val 13 60 rfl rfl rfl (v := .slice (some ⟨w8.heap.size, 0, none⟩) 4 4) (w' := w8.drew.alloc (ob4 a1 a2 q1 q2)) (by kernel_rfl) ?_
              have BA : BI w8 (w8.drew.alloc (ob4 a1 a2 q1 q2)) := BI.next (BI.start w8) ((Below.refl _ _).alloc (Nat.le_refl _) _)
              have hob : (w8.drew.alloc (ob4 a1 a2 q1 q2)).heap[w8.heap.size]? = some (ob4 a1 a2 q1 q2) := heap_alloc_new w8.drew _
              generalize w8.drew.alloc (ob4 a1 a2 q1 q2) = wA at *
              have hA1 : w8.heap.size < wA.heap.size := (Array.getElem?_eq_some_iff.1 hob).1
              refine ⟨BA, any_strong (S' := BI wA) (fun w' h => BI.next BA h) _ _ _ _ ?_⟩
              refine wpAnyH_all (rs := [3]) (by kernel_rfl) (by decide) (fun j hj => ?_)
              obtain rfl : j = 3 := by simpa using hj
              refine op_call 3 50 rfl rfl rfl (f := 88) (args := #[A.val, B.val]) (by kernel_rfl) ?_
              refine (HTO.out _).mono ?_
              rintro e w9 ⟨rfl, b9⟩
              have B9 : BI w8 w9 := BI.next BA b9
              refine ⟨_, rfl, b9, any_strong (S' := BI w9) (fun w' h => BI.next b9 h) _ _ _ _ ?_⟩
              refine take_p 4 51 (v := .slice pv3 (by3 l P C).length cv3) rfl rfl rfl (by kernel_rfl) (by kernel_rfl) (by kernel_rfl) (fun w' h => exec_look rfl (by kernel_rfl) (by kernel_rfl) (HVm.out w' (BI.next B9 h))) (Below.refl _ _) ?_
              refine wpAnyH_all (rs := [14]) (by kernel_rfl) (by decide) (fun j hj => ?_)
              obtain rfl : j = 14 := by simpa using hj
              refine op_call 14 61 rfl rfl rfl (f := 106) (args := #[.slice pv3 (by3 l P C).length cv3, .slice (some ⟨w8.heap.size, 0, none⟩) 4 4]) (by kernel_rfl) ?_
              refine (pairs_without (by3 l P C) [(a1 : Int), (a2 : Int), (q1 : Int), (q2 : Int)] pv3 (some ⟨w8.heap.size, 0, none⟩) (by3 l P C).length cv3 4 4 _ rfl (by have := HLc.out; omega) (HVr.out _ B9) rfl (by omega) (rd_ob4 ((b9.block _ hA1).trans hob))).mono ?_
              rintro e w10 ⟨u, rfl, hu, b10⟩
              have BX : BI w8 w10 := BI.next B9 b10
              have hsz := Below.size B9
              refine ⟨_, rfl, b10, any_strong (S' := BI w10) (fun w' h => BI.next b10 h) _ _ _ _ ?_⟩
              obtain ⟨p3, c3, rfl, hc3, hr3, hx3⟩ := hu.form
              have b : Below w8.heap.size w8 w10 := BX
              have hu := OwnA2.base hu hsz
              generalize hF3 : (by3 l P C).filter (freeP [(a1 : Int), (a2 : Int), (q1 : Int), (q2 : Int)]) = F3 at *
              have hn3 : F3.length ≤ 100 := by rw [← hF3]; exact Nat.le_trans (List.length_filter_le _ _) HLc.out
              obtain ⟨n3, hn3e⟩ : ∃ n3, F3.length = n3 := ⟨_, rfl⟩
              rw [hn3e] at hu hn3 ⊢
              have HN3 := Lib.hid hn3e
              refine seq_of [15] _ _ _ (by kernel_rfl) (Below.refl _ _) ⟨_, w10, .int .i64 n3, rfl, rfl, .inl (by kernel_rfl), Below.refl _ _, NoPanic.normal ?_⟩
              change Exit.then _ _ _ (Act.put _ (some 62) (.int .i64 n3)) w10
              simp only [Act.put, List.setIfInBounds_toArray, List.set_cons_zero, List.set_cons_succ]
              have HgC := Lib.hid (show gf < w8.heap.size from Nat.lt_trans HMl.out K9.out.lt)
              have Sw10 := Lib.hid b.size
              have HB := Lib.hid (chain0 (w := w) (by repeat (first | with_reducible exact Below.refl _ _ | with_reducible exact HB.out | with_reducible apply Below.drew | with_reducible apply bdN | with_reducible refine Below.alloc ?_ (by first | exact Nat.le_refl _ | with_reducible exact HB.out.size | omega | (simp; done) | (simp; omega) | (have := HB.out.size; simp at *; omega)) _ | with_reducible refine Below.setCell ?_ (by first | exact Nat.le_refl _ | with_reducible exact HB.out.size | omega | (simp; done) | (simp; omega) | (have := HB.out.size; simp at *; omega)) _)) b)
              have HM := Lib.hid (MapG.below (by repeat (first | with_reducible exact HM.out | with_reducible apply MapG.drewN | with_reducible apply MapG.drew | with_reducible apply MapG.alloc)) b)
              have HO2 := Lib.hid (OwnA2.below (by repeat (first | with_reducible exact HO2.out | with_reducible apply OwnA2.drewN | with_reducible apply OwnA2.drew | with_reducible apply OwnA2.alloc)) b)
              have K7 := Lib.hid (VB.below (by repeat (first | with_reducible exact K7.out | with_reducible apply VB.drewN | with_reducible apply VB.drew | with_reducible apply VB.alloc)) b)
              have K9 := Lib.hid (VB.below (by repeat (first | with_reducible exact K9.out | with_reducible apply VB.drewN | with_reducible apply VB.drew | with_reducible apply VB.alloc)) b)
              clear b
              obtain ⟨gC, hgC⟩ : ∃ gC, w8.heap.size = gC := ⟨_, rfl⟩
              rw [hgC] at hu HgC
              have HO3 := Lib.hid hu
              have HS3 : Hid (∀ r, r ∈ F3 → sm6 (srt6 (p6 ⟨a1, a2⟩ ⟨q1, q2⟩ r))) := Lib.hid (fun r hr => HSm.out _ (HTk.out _ _ _ HAm.out HQ.out.1 HQ.out.2 (by rw [HTG.out]; exact List.mem_map.2 ⟨r, hr, rfl⟩)))
              clear hu hgC hsz BX b10 b9 B9 BA hc3 hr3 hx3 hF3 hn3e HVr HVm
              go_wp2_with fail
              go_loopw [13, 14, 63] (fun _ _ i wr => ∃ t : Nat, t ≤ n3 ∧ i = .int .i64 t ∧ Hid (MapG wr gf (base2 ++ (F3.take t).map fun r => srt6 (p6 ⟨a1, a2⟩ ⟨q1, q2⟩ r)).length (base2 ++ (F3.take t).map fun r => srt6 (p6 ⟨a1, a2⟩ ⟨q1, q2⟩ r))) ∧ Hid (OwnA2 wr gB (.slice (some ⟨b2, o2, none⟩) n2 c2) F2) ∧ Hid (OwnA2 wr gC (.slice p3 n3 c3) F3) ∧ Hid (VB wr g7 79 (pv ⟨a1, a2⟩)) ∧ Hid (VB wr g9 79 (pv ⟨q1, q2⟩)) ∧ Hid (Below w.heap.size w wr)) (fun _ _ i _ => n3 - (intOf i).toNat)
              case atStart => exact ⟨0, Nat.zero_le _, rfl, by simpa using HM, HO2, HO3, K7, K9, HB⟩
              case round =>
                clear HM HO2 HO3 K7 K9 HB
                obtain ⟨t, ht, rfl, HM, HO2, HO3, K7, K9, HB⟩ := hrel
                have t0 : (0 : Int) ≤ (t : Int) := by omega
                by_cases htt : t < n3
                · have t1 : (t : Int) < (n3 : Int) := by omega
                  obtain ⟨b3, o3, r, rfl, hb3, hr, c0, c1⟩ := HO3.out.rd.aA2 (k := t) (by rw [HN3.out]; exact htt)
                  have HSr := Lib.hid (HS3.out r (List.mem_of_getElem? hr))
                  have HStt : Hid (base2 ++ (F3.take (t + 1)).map (fun r => srt6 (p6 ⟨a1, a2⟩ ⟨q1, q2⟩ r)) = (base2 ++ (F3.take t).map fun r => srt6 (p6 ⟨a1, a2⟩ ⟨q1, q2⟩ r)) ++ [srt6 (p6 ⟨a1, a2⟩ ⟨q1, q2⟩ r)]) := Lib.hid (by rw [take_snoc hr, List.map_append, List.map_singleton, List.append_assoc])
                  have HLd : Hid ((base2 ++ (F3.take t).map fun r => srt6 (p6 ⟨a1, a2⟩ ⟨q1, q2⟩ r)).length ≤ 1020000) := Lib.hid (by
                    have := HLb.out
                    rw [List.length_append, List.length_map, List.length_take]; omega)
                  clear hr
                  generalize base2 ++ (F3.take t).map (fun r => srt6 (p6 ⟨a1, a2⟩ ⟨q1, q2⟩ r)) = base3 at *
                  have HFc : Hid (srt6 (f6 ⟨a1, a2, q1, q2, r.a, r.b⟩) = srt6 (p6 ⟨a1, a2⟩ ⟨q1, q2⟩ r)) := Lib.hid rfl
                  generalize srt6 (p6 ⟨a1, a2⟩ ⟨q1, q2⟩ r) = c at *
                  go_upto_region 14 with fail
                  have K13 : Hid (VB (wr.alloc r.obj) wr.heap.size 79 (pv r)) := Lib.hid (VB.newAt rfl rfl)
                  have b : Below wr.heap.size wr (wr.alloc r.obj) := (Below.refl _ _).alloc (Nat.le_refl _) _
                  clear c0 c1
                  generalize wr.alloc r.obj = w11 at *
                  have Sw11 := Lib.hid b.size
                  have HB := Lib.hid (chain0 (w := w) (by repeat (first | with_reducible exact Below.refl _ _ | with_reducible exact HB.out | with_reducible apply Below.drew | with_reducible apply bdN | with_reducible refine Below.alloc ?_ (by first | exact Nat.le_refl _ | with_reducible exact HB.out.size | omega | (simp; done) | (simp; omega) | (have := HB.out.size; simp at *; omega)) _ | with_reducible refine Below.setCell ?_ (by first | exact Nat.le_refl _ | with_reducible exact HB.out.size | omega | (simp; done) | (simp; omega) | (have := HB.out.size; simp at *; omega)) _)) b)
                  have HM := Lib.hid (MapG.below (by repeat (first | with_reducible exact HM.out | with_reducible apply MapG.drewN | with_reducible apply MapG.drew | with_reducible apply MapG.alloc)) b)
                  have HO2 := Lib.hid (OwnA2.below (by repeat (first | with_reducible exact HO2.out | with_reducible apply OwnA2.drewN | with_reducible apply OwnA2.drew | with_reducible apply OwnA2.alloc)) b)
                  have HO3 := Lib.hid (OwnA2.below (by repeat (first | with_reducible exact HO3.out | with_reducible apply OwnA2.drewN | with_reducible apply OwnA2.drew | with_reducible apply OwnA2.alloc)) b)
                  have K7 := Lib.hid (VB.below (by repeat (first | with_reducible exact K7.out | with_reducible apply VB.drewN | with_reducible apply VB.drew | with_reducible apply VB.alloc)) b)
                  have K9 := Lib.hid (VB.below (by repeat (first | with_reducible exact K9.out | with_reducible apply VB.drewN | with_reducible apply VB.drew | with_reducible apply VB.alloc)) b)
                  clear b
                  obtain ⟨g13, hg13⟩ : ∃ g13, wr.heap.size = g13 := ⟨_, rfl⟩
                  rw [hg13] at K13
                  try rw [hg13]
                  clear hg13
                  have e0 := VB.at_ K7.out (j := 0) rfl
                  have e1 := VB.at_ K7.out (j := 1) rfl
                  have e2 := VB.at_ K9.out (j := 0) rfl
                  have e3 := VB.at_ K9.out (j := 1) rfl
                  have e4 := VB.at_ K13.out (j := 0) rfl
                  have e5 := VB.at_ K13.out (j := 1) rfl
                  go_upto_region 15 with fail
                  clear e0 e1 e2 e3 e4 e5 K13
                  go_wp2_with fail
                  refine (sort_b6 ⟨a1, a2, q1, q2, r.a, r.b⟩ w11.heap.size _ (B6.newAt rfl rfl)).mono ?_
                  rintro e w12 ⟨rfl, hbx, hG⟩
                  have b : Below w11.heap.size w11 w12 := Below.grown ((Below.refl _ _).alloc (Nat.le_refl _) _) hG (by simp) (fun k hk => by injection hk with hk; omega)
                  have Sw12 := Lib.hid b.size
                  have HB := Lib.hid (chain0 (w := w) (by repeat (first | with_reducible exact Below.refl _ _ | with_reducible exact HB.out | with_reducible apply Below.drew | with_reducible apply bdN | with_reducible refine Below.alloc ?_ (by first | exact Nat.le_refl _ | with_reducible exact HB.out.size | omega | (simp; done) | (simp; omega) | (have := HB.out.size; simp at *; omega)) _ | with_reducible refine Below.setCell ?_ (by first | exact Nat.le_refl _ | with_reducible exact HB.out.size | omega | (simp; done) | (simp; omega) | (have := HB.out.size; simp at *; omega)) _)) b)
                  have HM := Lib.hid (MapG.below (by repeat (first | with_reducible exact HM.out | with_reducible apply MapG.drewN | with_reducible apply MapG.drew | with_reducible apply MapG.alloc)) b)
                  have HO2 := Lib.hid (OwnA2.below (by repeat (first | with_reducible exact HO2.out | with_reducible apply OwnA2.drewN | with_reducible apply OwnA2.drew | with_reducible apply OwnA2.alloc)) b)
                  have HO3 := Lib.hid (OwnA2.below (by repeat (first | with_reducible exact HO3.out | with_reducible apply OwnA2.drewN | with_reducible apply OwnA2.drew | with_reducible apply OwnA2.alloc)) b)
                  have K7 := Lib.hid (VB.below (by repeat (first | with_reducible exact K7.out | with_reducible apply VB.drewN | with_reducible apply VB.drew | with_reducible apply VB.alloc)) b)
                  have K9 := Lib.hid (VB.below (by repeat (first | with_reducible exact K9.out | with_reducible apply VB.drewN | with_reducible apply VB.drew | with_reducible apply VB.alloc)) b)
                  clear b
                  clear hG
                  rw [HFc.out] at hbx
                  obtain ⟨y0, y1, y2, y3, y4, y5⟩ := hbx.cell
                  go_wp2_with (at_mapUpdate; refine ghost_store rfl _ _ _ rfl gf base3.length base3 rfl HM.out (by have := HLd.out; simp only [maxLen]; omega) c HSr.out rfl rfl ?_; intro w13 hM13 hG13)
                  have hM14 : MapG w13 gf (base3 ++ [c]).length (base3 ++ [c]) := by rw [List.length_append]; exact hM13
                  rw [← HStt.out] at hM14
                  have h2 := OwnA2.off HO2.out hG13 HgB.out.1
                  have h3 := OwnA2.off HO3.out hG13 HgC.out
                  have h7 := VB.marked K7.out hG13 (by have := HG7.out; intro e; injection e with e; omega)
                  have h9 := VB.marked K9.out hG13 (by have := HMl.out; intro e; injection e with e; omega)
                  have hB2 := Below.grown HB.out hG13 HB.out.size (fun q hq => by injection hq with hq; have := HGf.out; omega)
                  go_roundw
                  case rel => exact ⟨t + 1, by omega, by go_num, hM14, h2, h3, h7, h9, hB2⟩
                  case measure => simp [intOf]; omega
                · obtain rfl : t = n3 := by omega
                  have HT3 : Hid (F3.take t = F3) := Lib.hid (by rw [← HN3.out, List.take_length])
                  rw [HT3.out, ← HTG.out, ← HStj.out] at HM
                  go_wp2_with fail
                  go_roundw
                  case rel => exact ⟨j + 1, by omega, by go_num, HM, HO2, K7, HB⟩
                  case measure => simp [intOf]; omega
          · rw [hsm] at he
            rw [hsm, if_pos rfl] at HTG
            clear hsm
            go_wp2_with fail
            go_roundw
            case rel => exact ⟨j + 1, by omega, by go_num, by rw [HStj.out, HTG.out, List.append_nil]; exact HM, HO2, K7, HB⟩
            case measure => simp [intOf]; omega
        · obtain rfl : j = n2 := by omega
          have HT2 : Hid (F2.take j = F2) := Lib.hid (by rw [← HN2.out, List.take_length])
          rw [HT2.out, ← HS1.out] at HM
          go_wp2_with fail
          go_roundw
          case rel => exact ⟨k + 1, by omega, by go_num, HM, HB⟩
          case measure => simp [intOf]; omega
    · obtain rfl : k = np := by omega
      have hkm := Lib.hid (callsIn_wide.1 (keys_map 4 (some gf) wr))
      have HLs : Hid ((allS l P k).length ≤ 1000000) := Lib.hid (by
        have h1 := allS_len l P k
        have h2 : P.length * P.length ≤ 100 * 100 := Nat.mul_le_mul (by rw [HNp.out]; exact HPl.out) (by rw [HNp.out]; exact HPl.out)
        have h3 : k * (P.length * P.length) ≤ 100 * (100 * 100) := Nat.mul_le_mul (by have := HPl.out; omega) h2
        omega)
      have HSO := Lib.hid (sorted_keys wr.heap.size gf (allS l P k).length (allS l P k) HLs.out (wr.alloc (.cells #[.map (some gf)] 112)) (by simp) (cell_of_row _ _ 0 _ _ _ (heap_alloc_new wr _)) (HM.out.alloc _))
      have b1 : Below w.heap.size w (wr.alloc (.cells #[.map (some gf)] 112)) := HB.out.alloc HB.out.size _
      go_wp2_with fail
      refine hkm.out.mono ?_
      rintro e w3 ⟨rfl, rfl⟩
      go_wp2_with fail
      refine HSO.out.mono ?_
      rintro e w4 ⟨v, ss, Q, rfl, hg, hp, hsr, hO, hB⟩
      have HE := Lib.hid (HGS.out ss Q hg.1 (fun g => by
        constructor
        · intro h
          exact (HSk.out g).1 ((hg.2.2.2 g (hg.2.1 g h)).1 h)
        · intro h
          exact (hg.2.2.2 g (HSm.out g h)).2 ((HSk.out g).2 h)) hp hsr)
      have HOo := Lib.hid (OwnA6.base hO (B' := wo.heap.size) (Nat.le_trans HBo.out.size b1.size))
      have HBf := Lib.hid (HBo.out.trans ((b1.trans (hB.mono b1.size)).mono HBo.out.size))
      clear hg hp hsr hO hB b1
      go_wp2_with fail
      go_ret
      exact ⟨v, rfl, by rw [← HE.out]; exact HOo.out, HBf.out⟩
end Go.Proofs.Ytjmlefcmhjodeaa.others

/- The sum of the cards of a hand: the program and the model alike. -/
namespace Go.Proofs.Ytjmlefcmhjodeaa.cards
open Go.RowKit
set_option linter.unusedVariables false

def addC (s x : Cd) : Cd := ⟨(s.a + x.a) % 3, (s.b + x.b) % 3, (s.c + x.c) % 3, (s.d + x.d) % 3⟩
def sumOf (l : List Cd) : Cd := l.foldl addC zero
theorem addC_ok (s x : Cd) : (addC s x).ok = true := Cd.mk_ok (by unfold addC; simp only; omega)
theorem sum_snoc {l : List Cd} {k : Nat} {x : Cd} (h : l[k]? = some x) : sumOf (l.take (k + 1)) = addC (sumOf (l.take k)) x := by rw [take_snoc h]; simp [sumOf, List.foldl_append]
theorem foldl_ok : ∀ (l : List Cd) (s : Cd), s.ok = true → (l.foldl addC s).ok = true
  | [], s, h => h
  | x :: r, s, h => foldl_ok r _ (addC_ok s x)
theorem sum_ok (l : List Cd) : (sumOf l).ok = true := foldl_ok l zero rfl
theorem sum_all {l : List Cd} {n : Nat} (h : l.length = n) : sumOf (l.take n) = sumOf l := by rw [← h, List.take_length]

set_option maxRecDepth 100000 in
set_option maxHeartbeats 2000000 in
theorem l2_sum (l : List Cd) (p : Option Addr) (n c : Nat) (w : World) (hn : l.length = n) (hl : n ≤ 1000000000) (hr : Rd w p (flat l)) (hok : l.all Cd.ok = true) :
    Calls Try.prog 57 #[.slice p n c] w fun e w' => e = .returned (sumOf l).val ∧ Below w.heap.size w w' := by
  have HN := Lib.hid hn
  have HR := Lib.hid hr
  have HK := Lib.hid hok
  clear hn hr hok
  go_enter Try.func57, Try.ntmps57
  go_wp2_with fail
  go_loopw [4, 5] (fun i _ wr => ∃ k : Nat, k ≤ n ∧ i = .int .i64 k ∧ Hid (Below w.heap.size w wr) ∧ Hid (Box wr w.heap.size zero) ∧ Hid (Box wr (w.heap.size + 1) (sumOf (l.take k)))) (fun i _ _ => n - (intOf i).toNat)
  case atStart => exact ⟨0, Nat.zero_le _, rfl, Lib.hid (by repeat (first | with_reducible exact Below.refl _ _ | with_reducible exact HB.out | with_reducible apply Below.drew | with_reducible apply bdN | with_reducible refine Below.alloc ?_ (by first | exact Nat.le_refl _ | with_reducible exact HB.out.size | omega | (simp; done) | (simp; omega) | (have := HB.out.size; simp at *; omega)) _ | with_reducible refine Below.setCell ?_ (by first | exact Nat.le_refl _ | with_reducible exact HB.out.size | omega | (simp; done) | (simp; omega) | (have := HB.out.size; simp at *; omega)) _)), Lib.hid (by repeat (first | with_reducible exact HB.out | with_reducible apply Box.drewN | with_reducible apply Box.drew | (with_reducible refine Box.newAt ?_ ?_ <;> first | (simp; done) | rfl) | with_reducible apply Box.alloc)), by rw [List.take_zero]; exact Lib.hid (show Box _ _ zero from (by repeat (first | with_reducible exact HB.out | with_reducible apply Box.drewN | with_reducible apply Box.drew | (with_reducible refine Box.newAt ?_ ?_ <;> first | (simp; done) | rfl) | with_reducible apply Box.alloc)))⟩
  case round =>
    obtain ⟨k, hk, rfl, HB, K0, K1⟩ := hrel
    obtain ⟨k1a, k1b, k1c, k1d⟩ := K1.out.cell
    have k1f := K1.out.frozen
    by_cases hlt : k < n
    · obtain ⟨b, o, x, rfl, hb, hx, c0, c1, c2, c3⟩ := HR.out.card_in HB.out (k := k) (by rw [HN.out]; exact hlt)
      obtain ⟨⟨x1, x2⟩, ⟨x3, x4⟩, ⟨x5, x6⟩, x7, x8⟩ := Cd.bd (ok_at HK.out hx)
      obtain ⟨⟨y1, y2⟩, ⟨y3, y4⟩, ⟨y5, y6⟩, y7, y8⟩ := Cd.bd (sum_ok (l.take k))
      have HT := Lib.hid (sum_snoc hx)
      clear hx
      generalize sumOf (l.take k) = s at *
      have hn1 : b ≠ w.heap.size + 1 := by omega
      have hn2 : w.heap.size + 1 ≠ b := by omega
      have b0 : (0 : Int) ≤ (k : Int) := by omega
      have b1 : (k : Int) < (n : Int) := by omega
      go_wp2_with fail
      refine wp_loop_rounds 5 ?_
      iterate 4 (rw [rounds_succ]; go_wp2_with fail; go_region; go_wp2_with fail)
      rw [rounds_succ]
      go_wp2_with fail
      refine ⟨⟨k + 1, by omega, by go_num, ?_, ?_, ?_⟩, by simp [intOf]; omega⟩
      · exact Lib.hid (by repeat (first | with_reducible exact Below.refl _ _ | with_reducible exact HB.out | with_reducible apply Below.drew | with_reducible apply bdN | with_reducible refine Below.alloc ?_ (by first | exact Nat.le_refl _ | with_reducible exact HB.out.size | omega | (simp; done) | (simp; omega) | (have := HB.out.size; simp at *; omega)) _ | with_reducible refine Below.setCell ?_ (by first | exact Nat.le_refl _ | with_reducible exact HB.out.size | omega | (simp; done) | (simp; omega) | (have := HB.out.size; simp at *; omega)) _))
      · have h0 : w.heap.size ≠ w.heap.size + 1 := by omega
        exact Lib.hid ((((K0.out.far (p := ⟨w.heap.size + 1, _, none⟩) h0 _).far (p := ⟨w.heap.size + 1, _, none⟩) h0 _).far (p := ⟨w.heap.size + 1, _, none⟩) h0 _).far (p := ⟨w.heap.size + 1, _, none⟩) h0 _)
      · rw [HT.out]; exact Lib.hid (K1.out.set_ (addC s x))
    · obtain rfl : k = n := by omega
      rw [sum_all HN.out] at K1
      clear k1a k1b k1c k1d k1f
      obtain ⟨k1a, k1b, k1c, k1d⟩ := K1.out.cell
      obtain ⟨k0a, k0b, k0c, k0d⟩ := K0.out.cell
      have k0f := K0.out.frozen
      go_wp2_with fail
      exact bodyPost_ret (v := (sumOf l).val) (by simp [results, Try.results57, go_sem, *]) rfl ⟨rfl, by repeat (first | with_reducible exact Below.refl _ _ | with_reducible exact HB.out | with_reducible apply Below.drew | with_reducible apply bdN | with_reducible refine Below.alloc ?_ (by first | exact Nat.le_refl _ | with_reducible exact HB.out.size | omega | (simp; done) | (simp; omega) | (have := HB.out.size; simp at *; omega)) _ | with_reducible refine Below.setCell ?_ (by first | exact Nat.le_refl _ | with_reducible exact HB.out.size | omega | (simp; done) | (simp; omega) | (have := HB.out.size; simp at *; omega)) _)⟩

noncomputable def sumR (l : List Cd) : Cd × Bool := if handB l = true then (sumOf l, true) else (zero, false)

set_option maxRecDepth 100000 in
set_option maxHeartbeats 2000000 in
theorem impl_sum (l : List Cd) (p : Option Addr) (n c : Nat) (w : World) (hn : l.length = n) (hl : n ≤ 1000000000) (hr : Rd w p (flat l)) :
    Calls Try.prog 59 #[.slice p n c] w fun e w' => e = .returned (.tuple #[(sumR l).1.val, .bool (sumR l).2]) ∧ Below w.heap.size w w' := by
  have HN := Lib.hid hn
  have HR := Lib.hid hr
  clear hn hr
  go_enter Try.func59, Try.ntmps59
  go_wp2_with fail
  refine ((is_hand l p n c _ HN.out hl (HR.out.alloc _))).mono ?_
  rintro e w1 ⟨rfl, b⟩
  have Sw1 := Lib.hid b.size
  have HB := Lib.hid (chain0 (w := w) (by repeat (first | with_reducible exact Below.refl _ _ | with_reducible exact HB.out | with_reducible apply Below.drew | with_reducible apply bdN | with_reducible refine Below.alloc ?_ (by first | exact Nat.le_refl _ | with_reducible exact HB.out.size | omega | (simp; done) | (simp; omega) | (have := HB.out.size; simp at *; omega)) _ | with_reducible refine Below.setCell ?_ (by first | exact Nat.le_refl _ | with_reducible exact HB.out.size | omega | (simp; done) | (simp; omega) | (have := HB.out.size; simp at *; omega)) _)) b)
  have K0 : Hid (Box _ (w.heap.size) (zero)) := Lib.hid (Box.below (by repeat (first | with_reducible exact K0.out | with_reducible apply Box.drewN | with_reducible apply Box.drew | (with_reducible refine Box.newAt ?_ ?_ <;> first | (simp; done) | rfl) | with_reducible apply Box.alloc)) b)
  try clear k0a k0b k0c k0d k0z
  have k0z := K0.out.lt
  obtain ⟨k0a, k0b, k0c, k0d⟩ := K0.out.cell
  try clear k0f
  have k0f := K0.out.frozen
  clear b
  cases hh : handB l
  · have HT := Lib.hid (show (zero, false) = sumR l by unfold sumR; rw [if_neg (by simp [hh])])
    go_wp2_with fail
    rw [← HT.out]
    exact bodyPost_ret (v := .tuple #[zero.val, .bool false]) (by simp [results, Try.results59, go_sem, *]) rfl ⟨rfl, by repeat (first | with_reducible exact Below.refl _ _ | with_reducible exact HB.out | with_reducible apply Below.drew | with_reducible apply bdN | with_reducible refine Below.alloc ?_ (by first | exact Nat.le_refl _ | with_reducible exact HB.out.size | omega | (simp; done) | (simp; omega) | (have := HB.out.size; simp at *; omega)) _ | with_reducible refine Below.setCell ?_ (by first | exact Nat.le_refl _ | with_reducible exact HB.out.size | omega | (simp; done) | (simp; omega) | (have := HB.out.size; simp at *; omega)) _)⟩
  · have HT := Lib.hid (show (sumOf l, true) = sumR l by unfold sumR; rw [if_pos hh])
    have HK := Lib.hid (handB_true.1 hh).2.1
    have HZ := Lib.hid k0z
    go_wp2_with fail
    clear hh k0a k0b k0c k0d k0f k0z
    go_loopw [6, 7, 8, 16, 21] (fun _ _ _ i _ wr => ∃ k : Nat, k ≤ n ∧ i = .int .i64 k ∧ Hid (Below w.heap.size w wr) ∧ Hid (Box wr w.heap.size zero) ∧ Hid (Box wr w1.heap.size (sumOf (l.take k)))) (fun _ _ _ i _ _ => n - (intOf i).toNat)
    case atStart => exact ⟨0, Nat.zero_le _, rfl, Lib.hid (by repeat (first | with_reducible exact Below.refl _ _ | with_reducible exact HB.out | with_reducible apply Below.drew | with_reducible apply bdN | with_reducible refine Below.alloc ?_ (by first | exact Nat.le_refl _ | with_reducible exact HB.out.size | omega | (simp; done) | (simp; omega) | (have := HB.out.size; simp at *; omega)) _ | with_reducible refine Below.setCell ?_ (by first | exact Nat.le_refl _ | with_reducible exact HB.out.size | omega | (simp; done) | (simp; omega) | (have := HB.out.size; simp at *; omega)) _)), Lib.hid (K0.out.alloc _), by rw [List.take_zero]; exact Lib.hid (show Box _ _ zero from (by repeat (first | with_reducible exact HB.out | with_reducible apply Box.drewN | with_reducible apply Box.drew | (with_reducible refine Box.newAt ?_ ?_ <;> first | (simp; done) | rfl) | with_reducible apply Box.alloc)))⟩
    case round =>
      clear K0 HB
      obtain ⟨k, hk, rfl, HB, K0, K1⟩ := hrel
      obtain ⟨k1a, k1b, k1c, k1d⟩ := K1.out.cell
      have k1f := K1.out.frozen
      have k1z := K1.out.lt
      by_cases hlt : k < n
      · obtain ⟨b, o, x, rfl, hb, hx, c0, c1, c2, c3⟩ := HR.out.card_in HB.out (k := k) (by rw [HN.out]; exact hlt)
        obtain ⟨⟨x1, x2⟩, ⟨x3, x4⟩, ⟨x5, x6⟩, x7, x8⟩ := Cd.bd (ok_at HK.out hx)
        obtain ⟨⟨y1, y2⟩, ⟨y3, y4⟩, ⟨y5, y6⟩, y7, y8⟩ := Cd.bd (sum_ok (l.take k))
        have HX := Lib.hid (sum_snoc hx)
        clear hx
        generalize sumOf (l.take k) = s at *
        have hz := HZ.out
        have hw1 : b ≠ w1.heap.size := by omega
        have hw2 : w1.heap.size ≠ b := by omega
        have hw3 : wr.heap.size ≠ w1.heap.size := by omega
        have hw4 : w1.heap.size ≠ wr.heap.size := by omega
        have i0 : ∀ w : World, (Instr.index 25 x.val (.int .i64 0)).run Try.prog w = .ok (.int .i64 x.a) w := fun _ => by kernel_rfl
        have i1 : ∀ w : World, (Instr.index 25 x.val (.int .i64 1)).run Try.prog w = .ok (.int .i64 x.b) w := fun _ => by kernel_rfl
        have i2 : ∀ w : World, (Instr.index 25 x.val (.int .i64 2)).run Try.prog w = .ok (.int .i64 x.c) w := fun _ => by kernel_rfl
        have i3 : ∀ w : World, (Instr.index 25 x.val (.int .i64 3)).run Try.prog w = .ok (.int .i64 x.d) w := fun _ => by kernel_rfl
        have b0 : (0 : Int) ≤ (k : Int) := by omega
        have b1 : (k : Int) < (n : Int) := by omega
        go_wp2_with fail
        refine wp_loop_rounds 5 ?_
        repeat (rw [rounds_succ]; go_wp2_with fail)
        refine ⟨⟨k + 1, by omega, by go_num, ?_, ?_, ?_⟩, by simp [intOf]; omega⟩
        · have hh := HB.out.size
          exact Lib.hid (by repeat (first | with_reducible exact Below.refl _ _ | with_reducible exact HB.out | with_reducible apply Below.drew | with_reducible apply bdN | with_reducible refine Below.alloc ?_ (by first | exact Nat.le_refl _ | with_reducible exact HB.out.size | omega | (simp; done) | (simp; omega) | (have := HB.out.size; simp at *; omega)) _ | with_reducible refine Below.setCell ?_ (by first | exact Nat.le_refl _ | with_reducible exact HB.out.size | omega | (simp; done) | (simp; omega) | (have := HB.out.size; simp at *; omega)) _))
        · have h0 : w.heap.size ≠ w1.heap.size := by omega
          exact Lib.hid (by repeat (first | with_reducible exact K0.out | with_reducible apply Box.drewN | with_reducible apply Box.drew | with_reducible refine Box.far ?_ h0 _ | with_reducible apply Box.alloc))
        · rw [HX.out]
          exact Lib.hid ((K1.out.set_ (addC s x)).alloc _)
      · obtain rfl : k = n := by omega
        rw [sum_all HN.out] at K1
        clear k1a k1b k1c k1d k1f k1z
        obtain ⟨k1a, k1b, k1c, k1d⟩ := K1.out.cell
        obtain ⟨k0a, k0b, k0c, k0d⟩ := K0.out.cell
        have k0f := K0.out.frozen
        go_wp2_with fail
        rw [← HT.out]
        exact bodyPost_ret (v := .tuple #[(sumOf l).val, .bool true]) (by simp [results, Try.results59, go_sem, *]) rfl ⟨rfl, by repeat (first | with_reducible exact Below.refl _ _ | with_reducible exact HB.out | with_reducible apply Below.drew | with_reducible apply bdN | with_reducible refine Below.alloc ?_ (by first | exact Nat.le_refl _ | with_reducible exact HB.out.size | omega | (simp; done) | (simp; omega) | (have := HB.out.size; simp at *; omega)) _ | with_reducible refine Below.setCell ?_ (by first | exact Nat.le_refl _ | with_reducible exact HB.out.size | omega | (simp; done) | (simp; omega) | (have := HB.out.size; simp at *; omega)) _)⟩
end Go.Proofs.Ytjmlefcmhjodeaa.cards

/- SumGhost: the program and the model alike. -/
namespace Go.Proofs.Ytjmlefcmhjodeaa.others
open Go.RowKit
open cards
set_option linter.unusedVariables false

noncomputable def sgR (l : List Cd) : Bool × Bool := if handB l = true ∧ l.length = 6 then (same (sumOf l) zero, true) else (false, false)
theorem sgR_no {l : List Cd} (h : handB l = false ∨ ¬ l.length = 6) : sgR l = (false, false) := by
  unfold sgR
  rw [if_neg]
  rintro ⟨h1, h2⟩
  rcases h with h | h
  · rw [h] at h1; cases h1
  · exact h h2

set_option maxRecDepth 100000 in
set_option maxHeartbeats 2000000 in
theorem are_six (l : List Cd) (p : Option Addr) (n c : Nat) (w : World) (hn : l.length = n) (hl : n ≤ 1000000000) (hr : Rd w p (flat l)) :
    Calls Try.prog 58 #[.slice p n c] w fun e w' => e = .returned (.bool (handB l && decide (n = 6))) ∧ Below w.heap.size w w' := by
  have HN := Lib.hid hn
  have HR := Lib.hid hr
  clear hn hr
  by_cases h6 : n = 6
  · subst h6
    go_enter Try.func58, Try.ntmps58
    go_wp2_with fail
    refine ((is_hand l p 6 c _ HN.out hl HR.out)).mono ?_
    rintro e w1 ⟨rfl, b⟩
    have Sw1 := Lib.hid b.size
    have HB := Lib.hid (chain0 (w := w) (by repeat (first | with_reducible exact Below.refl _ _ | with_reducible exact HB.out | with_reducible apply Below.drew | with_reducible apply bdN | with_reducible refine Below.alloc ?_ (by first | exact Nat.le_refl _ | with_reducible exact HB.out.size | omega | (simp; done) | (simp; omega) | (have := HB.out.size; simp at *; omega)) _ | with_reducible refine Below.setCell ?_ (by first | exact Nat.le_refl _ | with_reducible exact HB.out.size | omega | (simp; done) | (simp; omega) | (have := HB.out.size; simp at *; omega)) _)) b)
    clear b
    go_wp2_with fail
    go_ret
    exact ⟨ret_bool (by simp), by repeat (first | with_reducible exact Below.refl _ _ | with_reducible exact HB.out | with_reducible apply Below.drew | with_reducible apply bdN | with_reducible refine Below.alloc ?_ (by first | exact Nat.le_refl _ | with_reducible exact HB.out.size | omega | (simp; done) | (simp; omega) | (have := HB.out.size; simp at *; omega)) _ | with_reducible refine Below.setCell ?_ (by first | exact Nat.le_refl _ | with_reducible exact HB.out.size | omega | (simp; done) | (simp; omega) | (have := HB.out.size; simp at *; omega)) _)⟩
  · have e6 : ((n : Int) == 6) = false := by simp; omega
    have HF := Lib.hid (show decide (n = 6) = false by simp [h6])
    clear h6
    go_enter Try.func58, Try.ntmps58
    go_wp2_with fail
    go_ret
    exact ⟨ret_bool (by rw [HF.out]; simp), by repeat (first | with_reducible exact Below.refl _ _ | with_reducible exact HB.out | with_reducible apply Below.drew | with_reducible apply bdN | with_reducible refine Below.alloc ?_ (by first | exact Nat.le_refl _ | with_reducible exact HB.out.size | omega | (simp; done) | (simp; omega) | (have := HB.out.size; simp at *; omega)) _ | with_reducible refine Below.setCell ?_ (by first | exact Nat.le_refl _ | with_reducible exact HB.out.size | omega | (simp; done) | (simp; omega) | (have := HB.out.size; simp at *; omega)) _)⟩

set_option maxRecDepth 100000 in
set_option maxHeartbeats 2000000 in
theorem impl_sg (l : List Cd) (p : Option Addr) (n c : Nat) (w : World) (hn : l.length = n) (hl : n ≤ 1000000000) (hr : Rd w p (flat l)) :
    Calls Try.prog 25 #[.slice p n c] w fun e w' => e = .returned (.tuple #[.bool (sgR l).1, .bool (sgR l).2]) ∧ Below w.heap.size w w' := by
  have HN := Lib.hid hn
  have HR := Lib.hid hr
  clear hn hr
  go_enter Try.func25, Try.ntmps25
  go_wp2_with fail
  refine ((are_six l p n c _ HN.out hl (by repeat (first | with_reducible exact HR.out | with_reducible apply Rd.drewN | with_reducible apply Rd.drew | with_reducible apply Rd.alloc)))).mono ?_
  rintro e w1 ⟨rfl, b⟩
  have Sw1 := Lib.hid b.size
  have HB := Lib.hid (chain0 (w := w) (by repeat (first | with_reducible exact Below.refl _ _ | with_reducible exact HB.out | with_reducible apply Below.drew | with_reducible apply bdN | with_reducible refine Below.alloc ?_ (by first | exact Nat.le_refl _ | with_reducible exact HB.out.size | omega | (simp; done) | (simp; omega) | (have := HB.out.size; simp at *; omega)) _ | with_reducible refine Below.setCell ?_ (by first | exact Nat.le_refl _ | with_reducible exact HB.out.size | omega | (simp; done) | (simp; omega) | (have := HB.out.size; simp at *; omega)) _)) b)
  have HR := Lib.hid (Rd.below (by repeat (first | with_reducible exact HR.out | with_reducible apply Rd.drewN | with_reducible apply Rd.drew | with_reducible apply Rd.alloc)) b)
  clear b
  cases hh : handB l && decide (n = 6)
  · have HT := Lib.hid (show (false, false) = sgR l from (sgR_no (by rw [HN.out]; cases h : handB l; exact .inl rfl; rw [h] at hh; exact .inr (by simpa using hh))).symm)
    go_wp2_with fail
    go_ret2
    exact ⟨by rw [← HT.out]; rfl, by repeat (first | with_reducible exact Below.refl _ _ | with_reducible exact HB.out | with_reducible apply Below.drew | with_reducible apply bdN | with_reducible refine Below.alloc ?_ (by first | exact Nat.le_refl _ | with_reducible exact HB.out.size | omega | (simp; done) | (simp; omega) | (have := HB.out.size; simp at *; omega)) _ | with_reducible refine Below.setCell ?_ (by first | exact Nat.le_refl _ | with_reducible exact HB.out.size | omega | (simp; done) | (simp; omega) | (have := HB.out.size; simp at *; omega)) _)⟩
  · obtain ⟨h1, h2⟩ : handB l = true ∧ n = 6 := by simpa using hh
    have HT := Lib.hid (show (same (sumOf l) zero, true) = sgR l by unfold sgR; rw [if_pos ⟨h1, by rw [HN.out]; exact h2⟩])
    have HS := Lib.hid (show sumR l = (sumOf l, true) by unfold sumR; rw [if_pos h1])
    have HC := fun w h => impl_sum l p n c w HN.out hl h
    rw [HS.out] at HC
    have he := eq_run (sumOf l) zero (sum_ok l) rfl
    generalize sumOf l = x at *
    clear h1 h2 hh
    replace HC := Lib.hid HC
    go_wp2_with fail
    refine ((HC.out _ (by repeat (first | with_reducible exact HR.out | with_reducible apply Rd.drewN | with_reducible apply Rd.drew | with_reducible apply Rd.alloc)))).mono ?_
    rintro e w2 ⟨rfl, b⟩
    have Sw2 := Lib.hid b.size
    have HB := Lib.hid (chain0 (w := w) (by repeat (first | with_reducible exact Below.refl _ _ | with_reducible exact HB.out | with_reducible apply Below.drew | with_reducible apply bdN | with_reducible refine Below.alloc ?_ (by first | exact Nat.le_refl _ | with_reducible exact HB.out.size | omega | (simp; done) | (simp; omega) | (have := HB.out.size; simp at *; omega)) _ | with_reducible refine Below.setCell ?_ (by first | exact Nat.le_refl _ | with_reducible exact HB.out.size | omega | (simp; done) | (simp; omega) | (have := HB.out.size; simp at *; omega)) _)) b)
    have HR := Lib.hid (Rd.below (by repeat (first | with_reducible exact HR.out | with_reducible apply Rd.drewN | with_reducible apply Rd.drew | with_reducible apply Rd.alloc)) b)
    clear b
    go_wp2_with fail
    go_ret2
    exact ⟨by rw [← HT.out]; rfl, by repeat (first | with_reducible exact Below.refl _ _ | with_reducible exact HB.out | with_reducible apply Below.drew | with_reducible apply bdN | with_reducible refine Below.alloc ?_ (by first | exact Nat.le_refl _ | with_reducible exact HB.out.size | omega | (simp; done) | (simp; omega) | (have := HB.out.size; simp at *; omega)) _ | with_reducible refine Below.setCell ?_ (by first | exact Nat.le_refl _ | with_reducible exact HB.out.size | omega | (simp; done) | (simp; omega) | (have := HB.out.size; simp at *; omega)) _)⟩

set_option maxRecDepth 100000 in
set_option maxHeartbeats 2000000 in
theorem spec_sg (l : List Cd) (p : Option Addr) (n c : Nat) (w : World) (hn : l.length = n) (hl : n ≤ 1000000000) (hr : Rd w p (flat l)) :
    Calls Try.prog 23 #[.slice p n c] w fun e w' => e = .returned (.tuple #[.bool (sgR l).1, .bool (sgR l).2]) ∧ Below w.heap.size w w' := by
  have HN := Lib.hid hn
  have HR := Lib.hid hr
  clear hn hr
  go_enter Try.func23, Try.ntmps23
  go_wp2_with fail
  refine ((l2_hand l p n c _ HN.out hl (by repeat (first | with_reducible exact HR.out | with_reducible apply Rd.drewN | with_reducible apply Rd.drew | with_reducible apply Rd.alloc)))).mono ?_
  rintro e w1 ⟨rfl, b⟩
  have Sw1 := Lib.hid b.size
  have HB := Lib.hid (chain0 (w := w) (by repeat (first | with_reducible exact Below.refl _ _ | with_reducible exact HB.out | with_reducible apply Below.drew | with_reducible apply bdN | with_reducible refine Below.alloc ?_ (by first | exact Nat.le_refl _ | with_reducible exact HB.out.size | omega | (simp; done) | (simp; omega) | (have := HB.out.size; simp at *; omega)) _ | with_reducible refine Below.setCell ?_ (by first | exact Nat.le_refl _ | with_reducible exact HB.out.size | omega | (simp; done) | (simp; omega) | (have := HB.out.size; simp at *; omega)) _)) b)
  have HR := Lib.hid (Rd.below (by repeat (first | with_reducible exact HR.out | with_reducible apply Rd.drewN | with_reducible apply Rd.drew | with_reducible apply Rd.alloc)) b)
  clear b
  cases hh : handB l
  · have HT := Lib.hid (show (false, false) = sgR l from (sgR_no (.inl hh)).symm)
    go_wp2_with fail
    go_ret2
    exact ⟨by rw [← HT.out]; rfl, by repeat (first | with_reducible exact Below.refl _ _ | with_reducible exact HB.out | with_reducible apply Below.drew | with_reducible apply bdN | with_reducible refine Below.alloc ?_ (by first | exact Nat.le_refl _ | with_reducible exact HB.out.size | omega | (simp; done) | (simp; omega) | (have := HB.out.size; simp at *; omega)) _ | with_reducible refine Below.setCell ?_ (by first | exact Nat.le_refl _ | with_reducible exact HB.out.size | omega | (simp; done) | (simp; omega) | (have := HB.out.size; simp at *; omega)) _)⟩
  · by_cases h6 : n = 6
    · subst h6
      have HT := Lib.hid (show (same (sumOf l) zero, true) = sgR l by unfold sgR; rw [if_pos ⟨hh, HN.out⟩])
      have HK := Lib.hid (handB_true.1 hh).2.1
      have he := eq_run (sumOf l) zero (sum_ok l) rfl
      have HC := Lib.hid (fun w h => l2_sum l p 6 c w HN.out hl h HK.out)
      generalize sumOf l = x at *
      clear hh
      go_wp2_with fail
      refine (HC.out _ (by repeat (first | with_reducible exact HR.out | with_reducible apply Rd.drewN | with_reducible apply Rd.drew | with_reducible apply Rd.alloc))).mono ?_
      rintro e w2 ⟨rfl, b⟩
      have HB := Lib.hid (chain0 (w := w) (by repeat (first | with_reducible exact Below.refl _ _ | with_reducible exact HB.out | with_reducible apply Below.drew | with_reducible apply bdN | with_reducible refine Below.alloc ?_ (by first | exact Nat.le_refl _ | with_reducible exact HB.out.size | omega | (simp; done) | (simp; omega) | (have := HB.out.size; simp at *; omega)) _ | with_reducible refine Below.setCell ?_ (by first | exact Nat.le_refl _ | with_reducible exact HB.out.size | omega | (simp; done) | (simp; omega) | (have := HB.out.size; simp at *; omega)) _)) b); have HR := Lib.hid (Rd.below (by repeat (first | with_reducible exact HR.out | with_reducible apply Rd.drewN | with_reducible apply Rd.drew | with_reducible apply Rd.alloc)) b)
      go_wp2_with fail
      go_ret2
      exact ⟨by rw [← HT.out]; rfl, by repeat (first | with_reducible exact Below.refl _ _ | with_reducible exact HB.out | with_reducible apply Below.drew | with_reducible apply bdN | with_reducible refine Below.alloc ?_ (by first | exact Nat.le_refl _ | with_reducible exact HB.out.size | omega | (simp; done) | (simp; omega) | (have := HB.out.size; simp at *; omega)) _ | with_reducible refine Below.setCell ?_ (by first | exact Nat.le_refl _ | with_reducible exact HB.out.size | omega | (simp; done) | (simp; omega) | (have := HB.out.size; simp at *; omega)) _)⟩
    · have e6 : ((n : Int) == 6) = false := by simp; omega
      have HT := Lib.hid (show (false, false) = sgR l from (sgR_no (.inr (by rw [HN.out]; exact h6))).symm)
      clear h6
      go_wp2_with fail
      go_ret2
      exact ⟨by rw [← HT.out]; rfl, by repeat (first | with_reducible exact Below.refl _ _ | with_reducible exact HB.out | with_reducible apply Below.drew | with_reducible apply bdN | with_reducible refine Below.alloc ?_ (by first | exact Nat.le_refl _ | with_reducible exact HB.out.size | omega | (simp; done) | (simp; omega) | (have := HB.out.size; simp at *; omega)) _ | with_reducible refine Below.setCell ?_ (by first | exact Nat.le_refl _ | with_reducible exact HB.out.size | omega | (simp; done) | (simp; omega) | (have := HB.out.size; simp at *; omega)) _)⟩
end Go.Proofs.Ytjmlefcmhjodeaa.others

/- IsGhost, GhostsIn: the program's. -/
namespace Go.Proofs.Ytjmlefcmhjodeaa.others
open Go.RowKit
open cards reg
set_option linter.unusedVariables false

noncomputable def ghR (l : List Cd) : List A6 × Bool := if handB l = true ∧ l.length ≤ 10 then (allG l, true) else ([], false)
theorem ghR_no {l : List Cd} (h : handB l = false ∨ 10 < l.length) : ghR l = ([], false) := by
  unfold ghR
  rw [if_neg]
  rintro ⟨h1, h2⟩
  rcases h with h | h
  · rw [h] at h1; cases h1
  · omega
noncomputable def igR (l : List Cd) : Bool × Bool := if handB l = true ∧ l.length = 6 then (thB 3 l [], true) else (false, false)
theorem igR_no {l : List Cd} (h : handB l = false ∨ l.length ≠ 6) : igR l = (false, false) := by
  unfold igR
  rw [if_neg]
  rintro ⟨h1, h2⟩
  rcases h with h | h
  · rw [h] at h1; cases h1
  · exact h h2
theorem cds_all {l : List Cd} (h : l.length = 6) : cdsAt l [0, 1, 2, 3, 4, 5] = l := by
  obtain ⟨a, b, c, d, e, f, rfl⟩ := list6 h
  rfl
theorem allG_six {l : List Cd} (h : l.length = 6) : decide (0 < (allG l).length) = thB 3 l [] := by
  have e : chS 6 6 0 = [[0, 1, 2, 3, 4, 5]] := by decide
  unfold allG
  rw [h, e, List.length_map]
  unfold gSel
  rw [List.filter_cons, cds_all h]
  cases thB 3 l [] <;> rfl

set_option maxRecDepth 100000 in
set_option maxHeartbeats 4000000 in
theorem impl_gi (l : List Cd) (p : Option Addr) (n cp : Nat) (w : World) (hn : l.length = n) (hl : n ≤ 1000000000) (hr : Rd w p (flat l)) :
    Calls Try.prog 46 #[.slice p n cp] w fun e w' => ∃ u, e = .returned (.tuple #[u, .bool (ghR l).2]) ∧ OwnA6 w' w.heap.size u (ghR l).1 ∧ Below w.heap.size w w' := by
  have HN := Lib.hid hn
  have HR0 := Lib.hid hr
  clear hn hr
  by_cases h12 : 10 < n
  · have HT := Lib.hid (ghR_no (l := l) (.inr (by rw [HN.out]; exact h12)))
    have m12 : (10 : Int) < (n : Int) := by omega
    go_enter Try.func46, Try.ntmps46
    go_wp2_with fail
    go_ret2
    exact ⟨_, ret_two (by rw [HT.out]), by rw [HT.out]; exact OwnA6.empty _ _ (Nat.le_refl _), by repeat (first | with_reducible exact Below.refl _ _ | with_reducible exact HB.out | with_reducible apply Below.drew | with_reducible apply bdN | with_reducible refine Below.alloc ?_ (by first | exact Nat.le_refl _ | with_reducible exact HB.out.size | omega | (simp; done) | (simp; omega) | (have := HB.out.size; simp at *; omega)) _ | with_reducible refine Below.setCell ?_ (by first | exact Nat.le_refl _ | with_reducible exact HB.out.size | omega | (simp; done) | (simp; omega) | (have := HB.out.size; simp at *; omega)) _)⟩
  · have m12 : ¬ (10 : Int) < (n : Int) := by omega
    have HIs := Lib.hid (fun w h => is_hand l p n cp w HN.out hl h)
    cases hh : handB l
    · have HT := Lib.hid (ghR_no (l := l) (.inl hh))
      rw [hh] at HIs
      clear hh
      go_enter Try.func46, Try.ntmps46
      go_wp2_with fail
      refine (HIs.out _ HR0.out).mono ?_
      rintro e w1 ⟨rfl, b⟩
      have HB := Lib.hid b
      clear b
      go_wp2_with fail
      go_ret2
      exact ⟨_, ret_two (by rw [HT.out]), by rw [HT.out]; exact OwnA6.empty _ _ HB.out.size, by repeat (first | with_reducible exact Below.refl _ _ | with_reducible exact HB.out | with_reducible apply Below.drew | with_reducible apply bdN | with_reducible refine Below.alloc ?_ (by first | exact Nat.le_refl _ | with_reducible exact HB.out.size | omega | (simp; done) | (simp; omega) | (have := HB.out.size; simp at *; omega)) _ | with_reducible refine Below.setCell ?_ (by first | exact Nat.le_refl _ | with_reducible exact HB.out.size | omega | (simp; done) | (simp; omega) | (have := HB.out.size; simp at *; omega)) _)⟩
    · have HH := Lib.hid (handB_true.1 hh)
      have HT := Lib.hid (show ghR l = (allG l, true) by unfold ghR; rw [if_pos ⟨hh, by rw [HN.out]; omega⟩])
      rw [hh] at HIs
      have HG := Lib.hid (fun w h => ghosts_in l p n cp w HN.out (by omega) h HH.out.2.1 HH.out.2.2)
      clear hh
      rw [HT.out]
      dsimp only
      go_enter Try.func46, Try.ntmps46
      go_wp2_with fail
      refine (HIs.out _ HR0.out).mono ?_
      rintro e w1 ⟨rfl, b⟩
      have HB := Lib.hid b
      clear b
      go_wp2_with fail
      refine (HG.out _ (HR0.out.below HB.out)).mono ?_
      rintro e w2 ⟨u, rfl, hu, b⟩
      have HU := Lib.hid (OwnA6.base hu HB.out.size)
      have HB2 := Lib.hid (HB.out.trans (b.mono HB.out.size))
      clear hu b
      go_wp2_with fail
      go_ret2
      exact ⟨u, rfl, HU.out, HB2.out⟩
set_option maxRecDepth 100000 in
set_option maxHeartbeats 4000000 in
theorem impl_ig (l : List Cd) (p : Option Addr) (n c : Nat) (w : World) (hn : l.length = n) (hl : n ≤ 1000000000) (hr : Rd w p (flat l)) :
    Calls Try.prog 44 #[.slice p n c] w fun e w' => e = .returned (.tuple #[.bool (igR l).1, .bool (igR l).2]) ∧ Below w.heap.size w w' := by
  have HN := Lib.hid hn
  have HR := Lib.hid hr
  clear hn hr
  go_enter Try.func44, Try.ntmps44
  go_wp2_with fail
  refine ((are_six l p n c _ HN.out hl (by repeat (first | with_reducible exact HR.out | with_reducible apply Rd.drewN | with_reducible apply Rd.drew | with_reducible apply Rd.alloc)))).mono ?_
  rintro e w1 ⟨rfl, b⟩
  have Sw1 := Lib.hid b.size
  have HB := Lib.hid (chain0 (w := w) (by repeat (first | with_reducible exact Below.refl _ _ | with_reducible exact HB.out | with_reducible apply Below.drew | with_reducible apply bdN | with_reducible refine Below.alloc ?_ (by first | exact Nat.le_refl _ | with_reducible exact HB.out.size | omega | (simp; done) | (simp; omega) | (have := HB.out.size; simp at *; omega)) _ | with_reducible refine Below.setCell ?_ (by first | exact Nat.le_refl _ | with_reducible exact HB.out.size | omega | (simp; done) | (simp; omega) | (have := HB.out.size; simp at *; omega)) _)) b)
  have HR := Lib.hid (Rd.below (by repeat (first | with_reducible exact HR.out | with_reducible apply Rd.drewN | with_reducible apply Rd.drew | with_reducible apply Rd.alloc)) b)
  clear b
  cases hh : handB l && decide (n = 6)
  · have HT := Lib.hid (show (false, false) = igR l from (igR_no (by rw [HN.out]; cases h : handB l; exact .inl rfl; rw [h] at hh; exact .inr (by simpa using hh))).symm)
    go_wp2_with fail
    go_ret2
    exact ⟨by rw [← HT.out]; rfl, by repeat (first | with_reducible exact Below.refl _ _ | with_reducible exact HB.out | with_reducible apply Below.drew | with_reducible apply bdN | with_reducible refine Below.alloc ?_ (by first | exact Nat.le_refl _ | with_reducible exact HB.out.size | omega | (simp; done) | (simp; omega) | (have := HB.out.size; simp at *; omega)) _ | with_reducible refine Below.setCell ?_ (by first | exact Nat.le_refl _ | with_reducible exact HB.out.size | omega | (simp; done) | (simp; omega) | (have := HB.out.size; simp at *; omega)) _)⟩
  · obtain ⟨h1, h2⟩ : handB l = true ∧ n = 6 := by simpa using hh
    have HH := Lib.hid (handB_true.1 h1)
    have HT := Lib.hid (show (decide (0 < (allG l).length), true) = igR l by unfold igR; rw [if_pos ⟨h1, by rw [HN.out]; exact h2⟩, allG_six (by rw [HN.out]; exact h2)])
    have HG := Lib.hid (fun w h => ghosts_in l p n c w HN.out (by omega) h HH.out.2.1 HH.out.2.2)
    clear h1 h2 hh
    go_wp2_with fail
    refine (HG.out _ HR.out).mono ?_
    rintro e w2 ⟨u, rfl, hu, b⟩
    obtain ⟨pu, cu, rfl, _, _, _⟩ := hu.form
    have Sw2 := Lib.hid b.size
    have HB := Lib.hid (chain0 (w := w) (by repeat (first | with_reducible exact Below.refl _ _ | with_reducible exact HB.out | with_reducible apply Below.drew | with_reducible apply bdN | with_reducible refine Below.alloc ?_ (by first | exact Nat.le_refl _ | with_reducible exact HB.out.size | omega | (simp; done) | (simp; omega) | (have := HB.out.size; simp at *; omega)) _ | with_reducible refine Below.setCell ?_ (by first | exact Nat.le_refl _ | with_reducible exact HB.out.size | omega | (simp; done) | (simp; omega) | (have := HB.out.size; simp at *; omega)) _)) b)
    have HR := Lib.hid (Rd.below (by repeat (first | with_reducible exact HR.out | with_reducible apply Rd.drewN | with_reducible apply Rd.drew | with_reducible apply Rd.alloc)) b)
    clear b
    clear hu
    go_wp2_with fail
    go_ret2
    exact ⟨by rw [← HT.out]; rfl, by repeat (first | with_reducible exact Below.refl _ _ | with_reducible exact HB.out | with_reducible apply Below.drew | with_reducible apply bdN | with_reducible refine Below.alloc ?_ (by first | exact Nat.le_refl _ | with_reducible exact HB.out.size | omega | (simp; done) | (simp; omega) | (have := HB.out.size; simp at *; omega)) _ | with_reducible refine Below.setCell ?_ (by first | exact Nat.le_refl _ | with_reducible exact HB.out.size | omega | (simp; done) | (simp; omega) | (have := HB.out.size; simp at *; omega)) _)⟩
end Go.Proofs.Ytjmlefcmhjodeaa.others

/- Slices of cards made one: the library's Grow of nil, and Concat. -/
namespace Go.Proofs.Ytjmlefcmhjodeaa.cards
open Go.RowKit
set_option linter.unusedVariables false

theorem own_grown (w : World) (n : Nat) (h0 : 0 < n) (hn : n ≤ 1000000) (z : Value) (hz : z.cells.size = 4) : Own (w.drew.alloc (.cells (Builtin.zeroCells z.cells n ++ Builtin.zeroCells z.cells (grownCap w n 0 25 - n)) 25)) w.heap.size (.slice (some ⟨w.heap.size, 0, none⟩) 0 (grownCap w n 0 25)) [] := by
  have hge := grownCap_ge w n 0 25
  have hm : n ≤ maxLen := by simp only [maxLen]; omega
  refine ⟨rfl, .inr ⟨w.heap.size, _, _, rfl, Nat.le_refl _, heap_alloc_new w.drew _, Nat.zero_le _, grownCap_le_maxLen w n 0 25 hm, ?_, by simp [flat]⟩⟩
  rw [Array.size_append, size_zeroCells, size_zeroCells, hz]
  omega

theorem flat_snoc {α : Type} {ls : List (List α)} {k : Nat} {l : List α} (h : ls[k]? = some l) : (ls.take (k + 1)).flatten = (ls.take k).flatten ++ l := by rw [take_snoc h]; simp
theorem flat_le {α : Type} (ls : List (List α)) (k : Nat) : (ls.take k).flatten.length ≤ ls.flatten.length := by
  have h := congrArg List.flatten (List.take_append_drop k ls)
  rw [List.flatten_append] at h
  rw [← h, List.length_append]; omega

end Go.Proofs.Ytjmlefcmhjodeaa.cards

/- Is a card there? The model. -/
namespace Go.Proofs.Ytjmlefcmhjodeaa.cards
open Go.RowKit
set_option linter.unusedVariables false

end Go.Proofs.Ytjmlefcmhjodeaa.cards

/- PutCard: the program and the model alike. -/
namespace Go.Proofs.Ytjmlefcmhjodeaa.cards
open Go.RowKit
set_option linter.unusedVariables false

theorem cell_last (w : World) (cs : Array Value) (t : TypeId) (g j : Nat) (hg : w.heap.size = g) : ((w.alloc (.cells cs t)).drew).cell? ⟨g, j, none⟩ = cs[j]? := by
  subst hg
  exact cell_of_row (w.alloc (.cells cs t)) w.heap.size j _ _ _ (heap_alloc_new w _)
theorem parts_put {w : World} {ba o n cp k : Nat} {l : List Cd} {c : Cd} (hr : Rd w (some ⟨ba, o, none⟩) (flat l)) (hn : l.length = n) (hk : k ≤ n) (hcp : n ≤ cp) :
    ∀ j l', [l.take k, [c], l.drop k][j]? = some l' → ∃ q c', (((w.alloc c.obj).alloc (.cells #[.slice (some ⟨ba, o, none⟩) k cp, .slice (some ⟨w.heap.size, 0, none⟩) 1 1, .slice (if cp = k then some ⟨ba, o, none⟩ else some ⟨ba, o + k * 4, none⟩) (n - k) (cp - k)] 26)).drew).cell? ⟨w.heap.size + 1, j, none⟩ = some (.slice q l'.length c') ∧ Rd (((w.alloc c.obj).alloc (.cells #[.slice (some ⟨ba, o, none⟩) k cp, .slice (some ⟨w.heap.size, 0, none⟩) 1 1, .slice (if cp = k then some ⟨ba, o, none⟩ else some ⟨ba, o + k * 4, none⟩) (n - k) (cp - k)] 26)).drew) q (flat l') ∧ (q = none → c' = 0) := by
  have hz : (w.alloc c.obj).heap.size = w.heap.size + 1 := by simp
  have hTl : (l.take k).length = k := by rw [List.length_take, hn]; omega
  have hDl : (l.drop k).length = n - k := by rw [List.length_drop, hn]
  intro j l' h
  have hj : j < 3 := (List.getElem?_eq_some_iff.1 h).1
  rcases (show j = 0 ∨ j = 1 ∨ j = 2 by omega) with rfl | rfl | rfl
  · simp at h; subst h
    exact ⟨_, _, by rw [cell_last _ _ _ _ _ hz, hTl]; rfl, (((hr.alloc _).alloc _).drew).take k, fun h => by cases h⟩
  · simp at h; subst h
    exact ⟨_, _, by rw [cell_last _ _ _ _ _ hz]; rfl, Box.rd1 (((Box.new w c).alloc _).drew), fun h => by cases h⟩
  · simp at h; subst h
    exact ⟨_, _, by rw [cell_last _ _ _ _ _ hz, hDl]; rfl, (((hr.alloc _).alloc _).drew).dropIf k (by rw [hn]; exact hcp), fun h => by split at h <;> cases h⟩

noncomputable def putR (l : List Cd) (c : Cd) : List Cd × Bool := if handB l = true ∧ c.ok = true ∧ l.length < 27 ∧ there l c = false then (put l c, true) else ([], false)
theorem put_len (l : List Cd) (c : Cd) : (put l c).length ≤ l.length + 1 := by
  unfold put
  split
  · omega
  · rw [List.length_append, List.length_cons, List.length_take, List.length_drop]; omega
theorem putR_len (l : List Cd) (c : Cd) : (putR l c).1.length ≤ 1000 := by
  unfold putR
  split
  · rename_i h
    have h1 := (handB_true.1 h.1).1
    have h2 := put_len l c
    show (put l c).length ≤ _
    omega
  · simp

end Go.Proofs.Ytjmlefcmhjodeaa.cards

/- DropCard: the program and the model alike, for a card that is none too. -/
namespace Go.Proofs.Ytjmlefcmhjodeaa.cards
open Go.RowKit
set_option linter.unusedVariables false

/-- Four numbers of 64 bits. -/
def wf4 (x : Cd) : Prop := (Lit.int .i64 x.a).wf = true ∧ (Lit.int .i64 x.b).wf = true ∧ (Lit.int .i64 x.c).wf = true ∧ (Lit.int .i64 x.d).wf = true
theorem wf4_ok {x : Cd} (h : x.ok = true) : wf4 x := by
  obtain ⟨⟨x1, x2⟩, ⟨x3, x4⟩, ⟨x5, x6⟩, x7, x8⟩ := Cd.bd h
  exact ⟨wf_small x1 (by omega), wf_small x3 (by omega), wf_small x5 (by omega), wf_small x7 (by omega)⟩
theorem key_litsW (x : Cd) (h : wf4 x) : (Try.prog).keyLits 3 25 x.val.cells.toList = some (lits x) := by
  obtain ⟨w1, w2, w3, w4⟩ := h
  have ce : (Try.prog).cellsOf 3 = 1 := by kernel_rfl
  have ct : (Try.prog).cellsOf 25 = 4 := by kernel_rfl
  simp [Program.keyLits, Try.underlying25, Try.underlying3, Value.cells, ce, ct, w1, w2, w3, w4, show List.range 4 = [0, 1, 2, 3] from rfl, lits]
theorem eq_runW (x y : Cd) (hx : wf4 x) (hy : wf4 y) (w : World) : (Op.equalIn 10000 25 x.val y.val).run Try.prog w = .ok (same x y) w := by
  obtain ⟨r, hr, hi⟩ := run_equalIn_deep (P := Try.prog) 9998 2 25 (by kernel_rfl) w 3 3 x.val y.val (lits x) (lits y) (by kernel_rfl) (by kernel_rfl) (key_litsW x hx) (key_litsW y hy)
  have e : r = same x y := by
    rw [Bool.eq_iff_iff, hi]
    simp [lits, same]
  rw [← e]
  exact hr
theorem same_bad {x c : Cd} (hx : x.ok = true) (hc : c.ok = false) : same x c = false := by
  rw [Bool.eq_false_iff]; intro h
  rw [same_iff.1 h] at hx
  rw [hx] at hc; cases hc

set_option maxRecDepth 100000 in
set_option maxHeartbeats 2000000 in
theorem place_bad (l : List Cd) (c : Cd) (p : Option Addr) (n cp : Nat) (w : World) (hn : l.length = n) (hl : n ≤ 1000) (hr : Rd w p (flat l)) (hok : l.all Cd.ok = true) (hw : wf4 c) (hc : c.ok = false) :
    Calls Try.prog 90 #[.slice p n cp, c.val] w fun e w' => e = .returned (.int .i64 (-1)) ∧ Below w.heap.size w w' := by
  have HN := Lib.hid hn
  have HR := Lib.hid hr
  have HK := Lib.hid hok
  have HW := Lib.hid hw
  have HC := Lib.hid hc
  clear hn hr hok hw hc
  go_enter Try.func90, Try.ntmps90
  go_wp2_with fail
  go_loopw [5] (fun i wr => ∃ k : Nat, k ≤ n ∧ i = .int .i64 k ∧ Hid (Below w.heap.size w wr) ∧ Hid (Box wr w.heap.size c)) (fun i _ => n - (intOf i).toNat)
  case atStart => exact ⟨0, Nat.zero_le _, rfl, Lib.hid (by repeat (first | with_reducible exact Below.refl _ _ | with_reducible exact HB.out | with_reducible apply Below.drew | with_reducible apply bdN | with_reducible refine Below.alloc ?_ (by first | exact Nat.le_refl _ | with_reducible exact HB.out.size | omega | (simp; done) | (simp; omega) | (have := HB.out.size; simp at *; omega)) _ | with_reducible refine Below.setCell ?_ (by first | exact Nat.le_refl _ | with_reducible exact HB.out.size | omega | (simp; done) | (simp; omega) | (have := HB.out.size; simp at *; omega)) _)), Lib.hid (by repeat (first | with_reducible exact HB.out | with_reducible apply Box.drewN | with_reducible apply Box.drew | (with_reducible refine Box.newAt ?_ ?_ <;> first | (simp; done) | rfl) | with_reducible apply Box.alloc))⟩
  case round =>
    obtain ⟨k, hk, rfl, HB, K0⟩ := hrel
    obtain ⟨k0a, k0b, k0c, k0d⟩ := K0.out.cell
    by_cases hlt : k < n
    · obtain ⟨b, o, x, rfl, hb, hx, c0, c1, c2, c3⟩ := (HR.out.below HB.out).card (k := k) (by rw [HN.out]; exact hlt)
      have he := eq_runW x c (wf4_ok (ok_at HK.out hx)) HW.out
      rw [same_bad (ok_at HK.out hx) HC.out] at he
      clear hx
      have m0 : (0 : Int) ≤ (k : Int) := by omega
      have m1 : (k : Int) < (n : Int) := by omega
      go_wp2_with fail
      have qk0a := fun d os => cell_regrown k0a d os
      have qk0b := fun d os => cell_regrown k0b d os
      have qk0c := fun d os => cell_regrown k0c d os
      have qk0d := fun d os => cell_regrown k0d d os
      have qc0 := fun d os => cell_regrown c0 d os
      have qc1 := fun d os => cell_regrown c1 d os
      have qc2 := fun d os => cell_regrown c2 d os
      have qc3 := fun d os => cell_regrown c3 d os
      refine wp_region_quiet_below (by kernel_rfl) (by kernel_rfl) ?_
      repeat (first | go_big_quiet_step ((fail)) | quiet_step ((fail)))
      refine wpQuiet_nil ?_
      intro w3 hw2
      have b : Below wr.heap.size wr w3 := by obtain ⟨r, hr⟩ := hw2; rw [hr]; exact below_regrown _ _ _
      clear hw2 qc0 qc1 qc2 qc3 qk0a qk0b qk0c qk0d
      have Sw3 := Lib.hid b.size
      have HB := Lib.hid (chain0 (w := w) (by repeat (first | with_reducible exact Below.refl _ _ | with_reducible exact HB.out | with_reducible apply Below.drew | with_reducible apply bdN | with_reducible refine Below.alloc ?_ (by first | exact Nat.le_refl _ | with_reducible exact HB.out.size | omega | (simp; done) | (simp; omega) | (have := HB.out.size; simp at *; omega)) _ | with_reducible refine Below.setCell ?_ (by first | exact Nat.le_refl _ | with_reducible exact HB.out.size | omega | (simp; done) | (simp; omega) | (have := HB.out.size; simp at *; omega)) _)) b)
      have K0 : Hid (Box _ (w.heap.size) (c)) := Lib.hid (Box.below (by repeat (first | with_reducible exact K0.out | with_reducible apply Box.drewN | with_reducible apply Box.drew | (with_reducible refine Box.newAt ?_ ?_ <;> first | (simp; done) | rfl) | with_reducible apply Box.alloc)) b)
      try clear k0a k0b k0c k0d k0z
      have k0z := K0.out.lt
      obtain ⟨k0a, k0b, k0c, k0d⟩ := K0.out.cell
      clear b
      clear c0 c1 c2 c3 he
      go_wp2_with fail
      go_roundw
      case rel => exact ⟨k + 1, by omega, by go_num, HB, K0⟩
      case measure => simp [intOf]; omega
    · obtain rfl : k = n := by omega
      go_wp2_with fail
      go_ret
      exact ⟨rfl, HB.out⟩

set_option maxRecDepth 100000 in
set_option maxHeartbeats 4000000 in
theorem l2_drop (l : List Cd) (k ba o n cp : Nat) (w : World) (hn : l.length = n) (hl : n ≤ 1000) (hcp : n ≤ cp) (hk : k < n) (hr : Rd w (some ⟨ba, o, none⟩) (flat l)) :
    Calls Try.prog 104 #[.slice (some ⟨ba, o, none⟩) n cp, .int .i64 k] w fun e w' => ∃ u, e = .returned u ∧ OwnN w' w.heap.size u (l.take k ++ l.drop (k + 1)) ∧ Below w.heap.size w w' := by
  have HN := Lib.hid hn
  have HR0 := Lib.hid hr
  obtain ⟨j, hj⟩ : ∃ j, k + 1 = j := ⟨_, rfl⟩
  have hwr : IntKind.i64.wrap ((k : Int) + 1) = (j : Int) := by rw [IntKind.wrap_i64]; omega
  rw [hj]
  have HJ := Lib.hid hj
  have HRt := Lib.hid (hr.take k)
  have HRd := Lib.hid (hr.dropIf (cp := cp) j (by rw [hn]; exact hcp))
  have hTl : (l.take k).length = k := by rw [List.length_take, hn]; omega
  have hDl : (l.drop j).length = n - j := by rw [List.length_drop, hn]
  have HTl := Lib.hid hTl
  have HDl := Lib.hid hDl
  have hcpl : l.length ≤ cp := by rw [hn]; exact hcp
  have HCp := Lib.hid hcpl
  have m0 : (0 : Int) ≤ (k : Int) := by omega
  have m1 : (k : Int) < (n : Int) := by omega
  have m2 : (k : Int) ≤ (cp : Int) := by omega
  have m3 : (0 : Int) ≤ (j : Int) := by omega
  have m4 : (j : Int) ≤ (n : Int) := by omega
  have m5 : (j : Int) ≤ (cp : Int) := by omega
  clear hn hr hTl hDl hcpl hj
  go_enter Try.func104, Try.ntmps104
  go_wp2_with fail
  have HB := Lib.hid (Below.refl w.heap.size w)
  go_region_law (first
    | (go_simp; go_at_call 105; refine (l2_own (l.take k) (some ⟨ba, o, none⟩) k cp _ HTl.out (by omega) (by repeat (first | with_reducible exact HRt.out | with_reducible apply Rd.drewN | with_reducible apply Rd.drew | with_reducible apply Rd.alloc)) (fun h => by cases h)).mono ?_; rintro e w5 ⟨u, rfl, hu, b⟩; have HU : Hid (OwnN w5 w.heap.size u (l.take k)) := Lib.hid (hu.base (by simp)); have HB := Lib.hid (chain0 (w := w) (by repeat (first | with_reducible exact Below.refl _ _ | with_reducible exact HB.out | with_reducible apply Below.drew | with_reducible apply bdN | with_reducible refine Below.alloc ?_ (by first | exact Nat.le_refl _ | with_reducible exact HB.out.size | omega | (simp; done) | (simp; omega) | (have := HB.out.size; simp at *; omega)) _ | with_reducible refine Below.setCell ?_ (by first | exact Nat.le_refl _ | with_reducible exact HB.out.size | omega | (simp; done) | (simp; omega) | (have := HB.out.size; simp at *; omega)) _)) b); have HRt := Lib.hid (Rd.below (by repeat (first | with_reducible exact HRt.out | with_reducible apply Rd.drewN | with_reducible apply Rd.drew | with_reducible apply Rd.alloc)) b); have HRd := Lib.hid ((HR0.out.below HB.out).dropIf (cp := cp) j HCp.out); clear hu)
    | (refine step_append_cards rfl (.tmp 8) (.tmp 12) rfl w.heap.size u (l.take k) (l.drop j) _ _ _ rfl rfl ?_ ?_ ?_ ?_ ?_ ?_ ?_
       · first | exact HU.out | exact HU.out.drew
       · first | exact HDl.out | (rw [HDl.out]; simp; done) | (rw [HDl.out]; omega)
       · exact HRd.out
       · intro h; split at h <;> cases h
       · have := HTl.out; simp; omega
       · exact HB.out.size
       intro v1 w6 hO1 hB1 hG1
       have HO1 := Lib.hid hO1
       have HB := Lib.hid (HB.out.trans hB1)
       clear hO1 hB1 hG1))
  all_goals
    go_wp2_with fail
    all_goals go_ret
    all_goals exact ⟨_, rfl, HO1.out, HB.out⟩

noncomputable def dropR (l : List Cd) (c : Cd) : List Cd × Bool := if handB l = true ∧ c.ok = true ∧ there l c = true then (l.take (less l c) ++ l.drop (less l c + 1), true) else ([], false)
theorem dropR_len (l : List Cd) (c : Cd) : (dropR l c).1.length ≤ 1000 := by
  unfold dropR
  split
  · rename_i h
    have h1 := (handB_true.1 h.1).1
    show (l.take (less l c) ++ l.drop (less l c + 1)).length ≤ _
    rw [List.length_append, List.length_take, List.length_drop]; omega
  · simp

theorem parts_drop {w : World} {ba o n cp k j : Nat} {l : List Cd} (hr : Rd w (some ⟨ba, o, none⟩) (flat l)) (hn : l.length = n) (hk : k ≤ n) (hcp : n ≤ cp) :
    ∀ i l', [l.take k, l.drop j][i]? = some l' → ∃ q c', ((w.alloc (.cells #[.slice (some ⟨ba, o, none⟩) k cp, .slice (if cp = j then some ⟨ba, o, none⟩ else some ⟨ba, o + j * 4, none⟩) (n - j) (cp - j)] 26)).drew).cell? ⟨w.heap.size, i, none⟩ = some (.slice q l'.length c') ∧ Rd ((w.alloc (.cells #[.slice (some ⟨ba, o, none⟩) k cp, .slice (if cp = j then some ⟨ba, o, none⟩ else some ⟨ba, o + j * 4, none⟩) (n - j) (cp - j)] 26)).drew) q (flat l') ∧ (q = none → c' = 0) := by
  have hTl : (l.take k).length = k := by rw [List.length_take, hn]; omega
  have hDl : (l.drop j).length = n - j := by rw [List.length_drop, hn]
  intro i l' h
  have hj : i < 2 := (List.getElem?_eq_some_iff.1 h).1
  rcases (show i = 0 ∨ i = 1 by omega) with rfl | rfl
  · simp at h; subst h
    exact ⟨_, _, by rw [cell_last _ _ _ _ _ rfl, hTl]; rfl, ((hr.alloc _).drew).take k, fun h => by cases h⟩
  · simp at h; subst h
    exact ⟨_, _, by rw [cell_last _ _ _ _ _ rfl, hDl]; rfl, ((hr.alloc _).drew).dropIf j (by rw [hn]; exact hcp), fun h => by split at h <;> cases h⟩

end Go.Proofs.Ytjmlefcmhjodeaa.cards

/- Can six cards be parted into pairs whose third cards are a line: the model's recursion. -/
namespace Go.Proofs.Ytjmlefcmhjodeaa.others
open Go.RowKit
open cards reg
set_option linter.unusedVariables false

/-- append(s, ..). -/
theorem exec_append {a : Act} {o : Oper} {s x : Operand} {T : TypeId} {v u v' : Value} {w w' : World} (hop : o.op = .call { callee := .builtin .append, args := #[s, x], argTypes := #[T, T] }) (hs : a.eval s = v) (hx : a.eval x = u)
    (h : (Builtin.append_ #[T, T] o.type #[v, u]).run Try.prog w = .ok v' w') : (execOp a.eval o).run Try.prog w = .ok (.value v') w' := by
  simp [execOp, hop, resolve, invoke, builtin, hs, hx, h, Result.andThen]
/-- A card is read where it lies. -/
theorem load_cardAt {w : World} {b o : Nat} {x : Cd} (h0 : w.cell? ⟨b, o, none⟩ = some (.int .i64 x.a)) (h1 : w.cell? ⟨b, o + 1, none⟩ = some (.int .i64 x.b)) (h2 : w.cell? ⟨b, o + 2, none⟩ = some (.int .i64 x.c)) (h3 : w.cell? ⟨b, o + 3, none⟩ = some (.int .i64 x.d)) :
    (loadVar 25 ⟨b, o, none⟩).run Try.prog w = .ok x.val w := by
  simp [loadVar, go_sem, h0, h1, h2, h3]
theorem rd_one (w : World) (x : Cd) : Rd (w.alloc x.obj) (some ⟨w.heap.size, 0, none⟩) (flat [x]) := fun _ => by
  refine ⟨w.heap.size, 0, rfl, by simp, fun j v hv => ?_⟩
  rw [Nat.zero_add, cell_of_row _ _ j _ _ _ (heap_alloc_new w _)]
  rw [← hv]; simp [flat, Cd.cells]
/-- What comes of the k-th partner of the first card. -/
def thK (r : Nat) (h T : List Cd) (k : Nat) : Bool := match h[0]?, h[k]? with
  | some x, some y => thB r (dropAt (dropAt h k) 0) (T ++ [third x y])
  | _, _ => false
theorem thB_succ (r : Nat) (h T : List Cd) : thB (r + 1) h T = (List.range h.length).any fun k => decide (1 ≤ k) && thK r h T k := rfl
theorem thB_yes {r : Nat} {h T : List Cd} {k : Nat} (h1 : 1 ≤ k) (h2 : k < h.length) (hk : thK r h T k = true) : thB (r + 1) h T = true := by
  rw [thB_succ]
  exact List.any_eq_true.2 ⟨k, by simpa using h2, by rw [hk, Bool.and_true]; exact decide_eq_true h1⟩
theorem thB_no {r : Nat} {h T : List Cd} (hk : ∀ k, 1 ≤ k → k < h.length → thK r h T k = false) : thB (r + 1) h T = false := by
  rw [thB_succ, List.any_eq_false]
  intro k hm
  have := List.mem_range.1 hm
  by_cases h1 : 1 ≤ k
  · rw [hk k h1 this]; simp
  · simp [h1]
theorem thK_at {r : Nat} {h T : List Cd} {k : Nat} {x y : Cd} (hx : h[0]? = some x) (hy : h[k]? = some y) : thK r h T k = thB r (dropAt (dropAt h k) 0) (T ++ [third x y]) := by
  unfold thK; rw [hx, hy]
theorem drop_ok {h : List Cd} {k : Nat} (hh : h.all Cd.ok = true) : (dropAt h k).all Cd.ok = true := by
  unfold dropAt
  rw [List.all_eq_true] at hh ⊢
  intro x hx
  rcases List.mem_append.1 hx with hx | hx
  · exact hh x (List.mem_of_mem_take hx)
  · exact hh x (List.mem_of_mem_drop hx)
theorem drop_len {h : List Cd} {k : Nat} (hk : k < h.length) : (dropAt h k).length = h.length - 1 := by
  unfold dropAt
  rw [List.length_append, List.length_take, List.length_drop]; omega

set_option maxRecDepth 100000 in
set_option maxHeartbeats 4000000 in
theorem thirds_end (T : List Cd) (ph : Option Addr) (cp : Nat) (pT : Option Addr) (cT : Nat) (w : World) (hT : T.length = 3) (hr : Rd w pT (flat T)) (hok : T.all Cd.ok = true) (h : List Cd) :
    Calls Try.prog 78 #[.slice ph 0 cp, .slice pT 3 cT] w fun e w' => e = .returned (.bool (thB 0 h T)) ∧ Below w.heap.size w w' := by
  obtain ⟨bx, o, x, rfl, hb, hx, c0, c1, c2, c3⟩ := hr.card (k := 0) (by omega)
  obtain ⟨bx', o', y, e1, hb', hy, d0, d1, d2, d3⟩ := hr.card (k := 1) (by omega)
  injection e1 with e1; injection e1 with e1 e2; subst e1; subst e2
  obtain ⟨bx', o', z, e1, hb', hz, f0, f1, f2, f3⟩ := hr.card (k := 2) (by omega)
  injection e1 with e1; injection e1 with e1 e2; subst e1; subst e2
  have HX := Lib.hid (ok_at hok hx)
  have HY := Lib.hid (ok_at hok hy)
  have HZ := Lib.hid (ok_at hok hz)
  have HT : Hid (thB 0 h T = line x y z) := Lib.hid (by
    match T, hT, hx, hy, hz with
    | [a, b, c], _, hx, hy, hz =>
      simp at hx hy hz
      subst hx; subst hy; subst hz
      rfl)
  rw [HT.out]
  have HL := Lib.hid (fun w => l2_line x y z w HX.out HY.out HZ.out)
  clear hr hx hy hz hok hT
  go_enter Try.func78, Try.ntmps78
  go_upto_region 2 with fail
  have HC : Hid (∀ w', BI w w' → (loadVar 25 ⟨bx, o + 0 * 4, none⟩).run Try.prog w' = .ok x.val w' ∧ (loadVar 25 ⟨bx, o + 1 * 4, none⟩).run Try.prog w' = .ok y.val w' ∧ (loadVar 25 ⟨bx, o + 2 * 4, none⟩).run Try.prog w' = .ok z.val w') := Lib.hid (fun w' b => by
    have q := fun (j : Nat) {v : Value} (e : w.cell? ⟨bx, j, none⟩ = some v) => (Below.cell (p := ⟨bx, j, none⟩) b hb).trans e
    exact ⟨load_cardAt (q _ c0) (q _ c1) (q _ c2) (q _ c3), load_cardAt (q _ d0) (q _ d1) (q _ d2) (q _ d3), load_cardAt (q _ f0) (q _ f1) (q _ f2) (q _ f3)⟩)
  clear c0 c1 c2 c3 d0 d1 d2 d3 f0 f1 f2 f3
  refine region_BI [(true, 0), (true, 1), (true, 2), (true, 3), (true, 4), (true, 5), (true, 6), (true, 7), (true, 8), (false, 9), (true, 10)] (by kernel_rfl) rfl (by kernel_rfl) ?_
  refine chain_pure 10 (v := .slice (some ⟨bx, o, none⟩) 3 cT) rfl rfl rfl (fun w => by kernel_rfl) ?_
  refine chain_pure 11 (v := .pointer (some ⟨bx, o + 0 * 4, none⟩)) rfl rfl rfl (exec_indexS (k := 0) (n := 3) (cp := cT) (by omega) rfl (by kernel_rfl) (by kernel_rfl)) ?_
  refine chain_read 12 (v := x.val) rfl rfl rfl (fun w' h => exec_cell rfl (by kernel_rfl) (HC.out w' h).1) ?_
  refine chain_pure 13 (v := .slice (some ⟨bx, o, none⟩) 3 cT) rfl rfl rfl (fun w => by kernel_rfl) ?_
  refine chain_pure 14 (v := .pointer (some ⟨bx, o + 1 * 4, none⟩)) rfl rfl rfl (exec_indexS (k := 1) (n := 3) (cp := cT) (by omega) rfl (by kernel_rfl) (by kernel_rfl)) ?_
  refine chain_read 15 (v := y.val) rfl rfl rfl (fun w' h => exec_cell rfl (by kernel_rfl) (HC.out w' h).2.1) ?_
  refine chain_pure 16 (v := .slice (some ⟨bx, o, none⟩) 3 cT) rfl rfl rfl (fun w => by kernel_rfl) ?_
  refine chain_pure 17 (v := .pointer (some ⟨bx, o + 2 * 4, none⟩)) rfl rfl rfl (exec_indexS (k := 2) (n := 3) (cp := cT) (by omega) rfl (by kernel_rfl) (by kernel_rfl)) ?_
  refine chain_read 18 (v := z.val) rfl rfl rfl (fun w' h => exec_cell rfl (by kernel_rfl) (HC.out w' h).2.2) ?_
  refine chain_call 19 rfl rfl rfl (fun w => by kernel_rfl) (fun w _ => HL.out w) ?_
  refine chain_pure 4 (v := .bool (line x y z)) rfl rfl rfl (fun w => by kernel_rfl) ?_
  intro w1 b1
  simp only [Act.put, List.setIfInBounds_toArray, List.set_cons_zero, List.set_cons_succ]
  have HB := Lib.hid b1
  clear b1
  go_wp2_with fail
  go_ret
  exact ⟨rfl, HB.out⟩

set_option maxRecDepth 100000 in
set_option maxHeartbeats 8000000 in
theorem l10_thirds : ∀ (r : Nat) (h T : List Cd) (ph : Option Addr) (n cp : Nat) (pT : Option Addr) (m cT : Nat) (w : World), h.length = n → n = 2 * r → n ≤ cp → Rd w ph (flat h) → h.all Cd.ok = true → T.length = m → m + r = 3 → Rd w pT (flat T) → (pT = none → cT = 0) → T.all Cd.ok = true →
    Calls Try.prog 78 #[.slice ph n cp, .slice pT m cT] w fun e w' => e = .returned (.bool (thB r h T)) ∧ Below w.heap.size w w'
  | 0, h, T, ph, n, cp, pT, m, cT, w, hn, h2, hcp, hr, hok, hm, hmr, hrT, h0, hokT => by
    obtain rfl : n = 0 := by omega
    obtain rfl : m = 3 := by omega
    exact thirds_end T ph cp pT cT w hm hrT hokT h
  | r + 1, h, T, ph, n, cp, pT, m, cT, w, hn, h2, hcp, hr, hok, hm, hmr, hrT, h0, hokT => by
    have HN := Lib.hid hn
    have H2 := Lib.hid h2
    have HM := Lib.hid hm
    have HH0 := Lib.hid hr
    have HT0 := Lib.hid hrT
    have HOk := Lib.hid hok
    have HOT := Lib.hid hokT
    have HP0 := Lib.hid h0
    have HCp := Lib.hid hcp
    have hn2 : 2 ≤ n := by omega
    have hn6 : n ≤ 6 := by omega
    have hm3 : m ≤ 3 := by omega
    have HMr := Lib.hid hmr
    obtain ⟨bh, oh, x, rfl, hbh, hx, _⟩ := hr.card (k := 0) (by omega)
    have HX := Lib.hid hx
    have HXo := Lib.hid (ok_at hok hx)
    obtain ⟨nr, hnr⟩ : ∃ nr, 2 * r = nr := ⟨_, rfl⟩
    have HNr := Lib.hid (show nr = n - 2 by omega)
    have HIH := Lib.hid (fun (h' T' : List Cd) (ph : Option Addr) (cp : Nat) (pT : Option Addr) (cT : Nat) (w : World) (a1 : h'.length = nr) a3 a4 a5 (a6 : T'.length = m + 1) a8 a9 a10 => l10_thirds r h' T' ph nr cp pT (m + 1) cT w a1 hnr.symm a3 a4 a5 a6 (by omega) a8 a9 a10)
    have HNo := Lib.hid (fun (q : ∀ k, 1 ≤ k → k < n → thK r h T k = false) => thB_no (r := r) (h := h) (T := T) (fun k a b => q k a (by omega)))
    have HYe := Lib.hid (fun k (a : 1 ≤ k) (b : k < n) (q : thK r h T k = true) => thB_yes a (by omega) q)
    have HDl := Lib.hid (fun k (hk : k < n) => (drop_len (h := h) (k := k) (by omega)).trans (by rw [hn]))
    clear hn h2 hcp hr hok hm hmr hrT h0 hokT hx hnr
    have hd : ((n : Int) == 0) = false := beq_eq_false_iff_ne.2 (by omega)
    go_enter Try.func78, Try.ntmps78
    go_wp2_with fail
    go_loopw [4, 5, 6] (fun _ k _ wr => ∃ i : Nat, 1 ≤ i ∧ i ≤ n ∧ k = .int .i64 i ∧ Hid (∀ j, 1 ≤ j → j < i → thK r h T j = false) ∧ Hid (Below w.heap.size w wr)) (fun _ k _ _ => n - (intOf k).toNat)
    case atStart => exact ⟨1, Nat.le_refl _, by omega, rfl, Lib.hid (fun j a b => by omega), Lib.hid (by repeat (first | with_reducible exact Below.refl _ _ | with_reducible exact HB.out | with_reducible apply Below.drew | with_reducible apply bdN | with_reducible refine Below.alloc ?_ (by first | exact Nat.le_refl _ | with_reducible exact HB.out.size | omega | (simp; done) | (simp; omega) | (have := HB.out.size; simp at *; omega)) _ | with_reducible refine Below.setCell ?_ (by first | exact Nat.le_refl _ | with_reducible exact HB.out.size | omega | (simp; done) | (simp; omega) | (have := HB.out.size; simp at *; omega)) _))⟩
    case round =>
      obtain ⟨i, hi1, hi, rfl, HF, HB⟩ := hrel
      have i0 : (0 : Int) ≤ (i : Int) := by omega
      by_cases hlt : i < n
      · have i1 : (i : Int) < (n : Int) := by omega
        obtain ⟨bx', ox', y, e1, hb', hy, d0, d1, d2, d3⟩ := (HH0.out.below HB.out).card (k := i) (by rw [HN.out]; exact hlt)
        injection e1 with e1; injection e1 with e1 e2; subst e1; subst e2
        obtain ⟨bx', ox', x', e1, _, hx', f0, f1, f2, f3⟩ := (HH0.out.below HB.out).card (k := 0) (by rw [HN.out]; omega)
        injection e1 with e1; injection e1 with e1 e2; subst e1; subst e2
        obtain rfl : x' = x := by have h := HX.out; rw [h] at hx'; injection hx' with hx'; exact hx'.symm
        have HYo := Lib.hid (ok_at HOk.out hy)
        have HKa := Lib.hid (thK_at (r := r) (T := T) HX.out hy)
        have HLd : Hid (∀ w', BI wr w' → (loadVar 25 ⟨bh, oh + 0 * 4, none⟩).run Try.prog w' = .ok x'.val w' ∧ (loadVar 25 ⟨bh, oh + i * 4, none⟩).run Try.prog w' = .ok y.val w') := Lib.hid (fun w' b => by
          have q := fun (j : Nat) {v : Value} (e : wr.cell? ⟨bh, j, none⟩ = some v) => (Below.cell (p := ⟨bh, j, none⟩) b hb').trans e
          exact ⟨load_cardAt (q _ f0) (q _ f1) (q _ f2) (q _ f3), load_cardAt (q _ d0) (q _ d1) (q _ d2) (q _ d3)⟩)
        clear hx' hy d0 d1 d2 d3 f0 f1 f2 f3 hb'
        go_wp2_with fail
        refine (l2_drop h i bh oh n cp _ HN.out (by omega) HCp.out hlt (HH0.out.below HB.out)).mono ?_
        rintro e w1 ⟨u, rfl, hu, b1⟩
        have hu : OwnN w1 wr.heap.size u (dropAt h i) := hu
        obtain ⟨g1, c1, rfl, hc1, hr1⟩ := hu.form
        have HD1 := Lib.hid (HDl.out i hlt)
        have HR1 := Lib.hid hr1
        have HC1 := Lib.hid hc1
        clear hu hc1 hr1
        obtain ⟨n1, hn1⟩ : ∃ n1, (dropAt h i).length = n1 := ⟨_, rfl⟩
        have HN1 := Lib.hid hn1
        rw [hn1] at HC1 HD1 ⊢
        clear hn1
        go_wp2_with fail
        refine (l2_drop (dropAt h i) 0 g1 0 n1 c1 _ HN1.out (by have := HD1.out; omega) HC1.out (by have := HD1.out; omega) HR1.out).mono ?_
        rintro e w2 ⟨u, rfl, hu, b2⟩
        have hu : OwnN w2 w1.heap.size u (dropAt (dropAt h i) 0) := hu
        obtain ⟨g2, c2, rfl, hc2, hr2⟩ := hu.form
        have HD2 : Hid ((dropAt (dropAt h i) 0).length = nr) := Lib.hid (by rw [drop_len (by rw [HN1.out]; have := HD1.out; omega), HN1.out, HD1.out, HNr.out]; omega)
        rw [HD2.out] at hc2 ⊢
        have HR2 := Lib.hid hr2
        have HC2 := Lib.hid hc2
        have HB2 : Hid (Below wr.heap.size wr w2) := Lib.hid (b1.trans (b2.mono b1.size))
        clear hu hc2 hr2 b1 b2
        go_upto_region 7 with fail
        have HT2 := Lib.hid ((HT0.out.below HB.out).below HB2.out)
        refine region_any (BI w2) 14 (by kernel_rfl) rfl ?_
        refine take_p 0 30 (v := .slice (some ⟨g2, 0, none⟩) nr c2) rfl rfl rfl (by kernel_rfl) (by kernel_rfl) (by kernel_rfl) (fun w' h => by kernel_rfl) (BI.start w2) ?_
        refine take_p 1 31 (v := .slice pT m cT) rfl rfl rfl (by kernel_rfl) (by kernel_rfl) (by kernel_rfl) (fun w' h => by kernel_rfl) (BI.start w2) ?_
        refine take_p 3 33 (v := .slice (some ⟨bh, oh, none⟩) n cp) rfl rfl rfl (by kernel_rfl) (by kernel_rfl) (by kernel_rfl) (fun w' h => by kernel_rfl) (BI.start w2) ?_
        refine take_p 4 34 (v := .pointer (some ⟨bh, oh + 0 * 4, none⟩)) rfl rfl rfl (by kernel_rfl) (by kernel_rfl) (by kernel_rfl) (fun w' h => exec_indexS (k := 0) (n := n) (cp := cp) (by omega) rfl (by kernel_rfl) (by kernel_rfl) w') (BI.start w2) ?_
        refine take_p 5 35 (v := x'.val) rfl rfl rfl (by kernel_rfl) (by kernel_rfl) (by kernel_rfl) (fun w' h => exec_cell rfl (by kernel_rfl) (HLd.out w' (HB2.out.trans (Below.mono h HB2.out.size))).1) (BI.start w2) ?_
        refine take_p 6 36 (v := .slice (some ⟨bh, oh, none⟩) n cp) rfl rfl rfl (by kernel_rfl) (by kernel_rfl) (by kernel_rfl) (fun w' h => by kernel_rfl) (BI.start w2) ?_
        refine take_p 7 37 (v := .int .i64 i) rfl rfl rfl (by kernel_rfl) (by kernel_rfl) (by kernel_rfl) (fun w' h => by kernel_rfl) (BI.start w2) ?_
        refine take_p 8 38 (v := .pointer (some ⟨bh, oh + i * 4, none⟩)) rfl rfl rfl (by kernel_rfl) (by kernel_rfl) (by kernel_rfl) (fun w' h => exec_indexS (k := i) (n := n) (cp := cp) hlt rfl (by kernel_rfl) (by kernel_rfl) w') (BI.start w2) ?_
        refine take_p 9 39 (v := y.val) rfl rfl rfl (by kernel_rfl) (by kernel_rfl) (by kernel_rfl) (fun w' h => exec_cell rfl (by kernel_rfl) (HLd.out w' (HB2.out.trans (Below.mono h HB2.out.size))).2) (BI.start w2) ?_
        refine wpAnyH_all (rs := [2]) (by kernel_rfl) (by decide) (fun j hj => ?_)
        obtain rfl : j = 2 := by simpa using hj
        refine op_call 2 32 rfl rfl rfl (f := 105) (args := #[.slice pT m cT]) (by kernel_rfl) ?_
        refine (l2_own T pT m cT _ HM.out (by omega) (HT2.out.below (BI.start w2)) HP0.out).mono ?_
        rintro e w3 ⟨u, rfl, hu, b3⟩
        have B3 : BI w2 w3 := BI.next (BI.start w2) b3
        have hu3 : OwnN w3 w2.heap.size u T := hu
        refine ⟨_, rfl, B3, any_strong (S' := BI w2) (fun w' h => h) _ _ _ _ ?_⟩
        refine wpAnyH_all (rs := [10]) (by kernel_rfl) (by decide) (fun j hj => ?_)
        obtain rfl : j = 10 := by simpa using hj
        refine op_call 10 40 rfl rfl rfl (f := 83) (args := #[x'.val, y.val]) (by kernel_rfl) ?_
        refine (l2_third x' y _ HXo.out HYo.out).mono ?_
        rintro e w4 ⟨rfl, b4⟩
        have B4 : BI w2 w4 := BI.next B3 b4
        have hu4 := hu3.below b4
        refine ⟨_, rfl, B4, ?_⟩
        refine wpAnyH_all (rs := [11]) (by kernel_rfl) (by decide) (fun j hj => ?_)
        obtain rfl : j = 11 := by simpa using hj
        refine op_val 11 41 rfl rfl rfl (v := .slice (some ⟨w4.heap.size, 0, none⟩) 1 1) (w' := w4.alloc (third x' y).obj) (by kernel_rfl) ?_
        have B5 : BI w2 (w4.alloc (third x' y).obj) := BI.next B4 ((Below.refl _ _).alloc (Nat.le_refl _) _)
        refine ⟨B5, ?_⟩
        refine wpAnyH_all (rs := [12]) (by kernel_rfl) (by decide) (fun j hj => ?_)
        obtain rfl : j = 12 := by simpa using hj
        obtain ⟨v6, w6, hrun6, hO6, hB6, hG6, hN6, hA6⟩ := run_append_cards (w4.alloc (third x' y).obj) 26 w2.heap.size u T [third x' y] (some ⟨w4.heap.size, 0, none⟩) 1 1 (hu4.alloc _).own rfl (rd_one w4 (third x' y)) (fun e => by cases e) (by rw [HM.out]; omega) (by have := Below.size B4; simp; omega)
        refine op_val 12 42 rfl rfl rfl (v := v6) (w' := w6) (exec_append rfl (by kernel_rfl) (by kernel_rfl) hrun6) ?_
        have B6 : BI w2 w6 := Below.trans B5 hB6
        refine ⟨B6, ?_⟩
        refine wpAnyH_all (rs := [13]) (by kernel_rfl) (by decide) (fun j hj => ?_)
        obtain rfl : j = 13 := by simpa using hj
        have hO7 : OwnN w6 w2.heap.size v6 (T ++ [third x' y]) := ⟨hO6, hN6 hu4.2⟩
        obtain ⟨g6, c6, rfl, hc6, hr6⟩ := hO7.form
        have hl6 : (T ++ [third x' y]).length = m + 1 := by rw [List.length_append, HM.out]; rfl
        rw [hl6]
        refine op_call 13 43 rfl rfl rfl (f := 78) (args := #[.slice (some ⟨g2, 0, none⟩) nr c2, .slice (some ⟨g6, 0, none⟩) (m + 1) c6]) (by kernel_rfl) ?_
        refine (HIH.out (dropAt (dropAt h i) 0) (T ++ [third x' y]) (some ⟨g2, 0, none⟩) c2 (some ⟨g6, 0, none⟩) c6 w6 HD2.out HC2.out (HR2.out.below B6) (drop_ok (drop_ok HOk.out)) hl6 hr6 (fun e => by cases e) (by rw [List.all_append, HOT.out]; simp [third_ok])).mono ?_
        rintro e w7 ⟨rfl, b7⟩
        rw [← HKa.out]
        refine ⟨_, rfl, BI.next B6 b7, ?_⟩
        refine seq_of [] _ _ _ (by kernel_rfl) (BI.next B6 b7) (NoPanic.normal ?_)
        have HBf := Lib.hid (HB.out.trans ((HB2.out.trans (Below.mono (BI.next B6 b7 : BI w2 w7) HB2.out.size)).mono HB.out.size))
        clear hu hu3 hu4 hrun6 hO6 hB6 hG6 hN6 hA6 hO7 hc6 hr6 hl6 b3 b4 b7 B3 B4 B5 B6
        change Exit.then _ _ _ (Act.put _ (some 43) (.bool (thK r h T i))) w7
        obtain ⟨q, hq⟩ : ∃ q, thK r h T i = q := ⟨_, rfl⟩
        have HQ := Lib.hid hq
        rw [hq]
        clear hq
        simp only [Act.put, List.setIfInBounds_toArray, List.set_cons_zero, List.set_cons_succ]
        cases q
        · go_wp2_with fail
          go_roundw
          case rel => exact ⟨i + 1, by omega, by omega, by go_num, Lib.hid (fun j a b => by rcases Nat.lt_or_ge j i with h | h; exact HF.out j a h; obtain rfl : j = i := (by omega); exact HQ.out), HBf⟩
          case measure => simp [intOf]; omega
        · have HR := Lib.hid (HYe.out i hi1 hlt HQ.out)
          go_wp2_with fail
          go_ret
          exact ⟨by rw [HR.out]; rfl, HBf.out⟩
      · obtain rfl : i = n := by omega
        have HR := Lib.hid (HNo.out HF.out)
        go_wp2_with fail
        go_ret
        exact ⟨by rw [HR.out]; rfl, HB.out⟩
end Go.Proofs.Ytjmlefcmhjodeaa.others

