/- CountCaps: what the closure does, and the program. -/
import Derived.Test.YtbimbaogjknboaaVc
import Derived.Test.YtbimbaogjknboaaGh
import Derived.IntWalk
namespace Go.Proofs.Ytbimbaogjknboaa.cards
open Go.RowKit
set_option linter.unusedVariables false

/-- One visit, as the program counts. -/
def cw (N : Int) (s : Int) (ps : List Int) : Int := if (ps.length : Int) = N then wrap64 (s + 1) else s
theorem tl_many {l : List Cd} : ∀ (d : Nat) (ps : List Int), (tl l d ps).length + 1 ≤ 2 ^ d
  | 0, ps => by simp [tl]
  | d + 1, ps => by
    have h1 := tl_many (l := l) d ps
    have h2 := tl_many (l := l) d (ps ++ [((l.length - (d + 1) : Nat) : Int)])
    rw [tl, List.length_append, Nat.pow_succ]
    split
    · rw [List.length_cons]; omega
    · simp only [List.length_nil]; omega
theorem cw_all (N : Int) : ∀ (L : List (List Int)) (s : Int), 0 ≤ s → s + (L.length : Int) ≤ 1000000 → L.foldl (cw N) s = L.foldl (cf N) s ∧ 0 ≤ L.foldl (cf N) s ∧ L.foldl (cf N) s ≤ s + (L.length : Int)
  | [], s, h0, h1 => by
    refine ⟨rfl, h0, ?_⟩
    show s ≤ s + ((0 : Nat) : Int)
    omega
  | q :: r, s, h0, h1 => by
    rw [List.length_cons] at h1
    have e : cw N s q = cf N s q := by
      unfold cw cf
      split
      · unfold wrap64; omega
      · rfl
    rw [List.foldl_cons, List.foldl_cons, e, List.length_cons]
    have hc : 0 ≤ cf N s q ∧ cf N s q ≤ s + 1 := by unfold cf; split <;> omega
    obtain ⟨h2, h3, h4⟩ := cw_all N r (cf N s q) hc.1 (by omega)
    exact ⟨h2, h3, by omega⟩
/-- How many caps with N cards there are. -/
def caps (l : List Cd) (N : Int) : Int := (tl l l.length []).foldl (cf N) (cf N 0 [])
noncomputable def capsR (l : List Cd) (N : Int) : Int × Bool := if poolB l = true ∧ 0 ≤ N ∧ N ≤ 15 then (caps l N, true) else (0, false)
theorem caps_cw {l : List Cd} {N : Int} (h : l.length ≤ 15) : (tl l l.length []).foldl (cw N) (cw N 0 []) = caps l N := by
  have h1 := tl_many (l := l) l.length []
  have h2 : 2 ^ l.length ≤ 2 ^ 15 := Nat.pow_le_pow_right (by omega) h
  have h3 := cw_all N ([] :: tl l l.length []) 0 (by omega) (by rw [List.length_cons]; omega)
  exact h3.1

/-- The variables that are captured: n in the block gn, the count in gv. -/
def Jc (B gn gv : Nat) (N : Int) (w : World) (s : Int) (S : Nat → Prop) : Prop := w.heap[gv]? = some (.cells #[.int .i64 s] 3) ∧ w.heap[gn]? = some (.cells #[.int .i64 N] 3) ∧ B ≤ gv ∧ B ≤ gn ∧ gn ≠ gv ∧ S = (fun j => j = gv ∨ j = gn)
theorem Jc.one {B gn gv : Nat} {N : Int} : ∀ w s S, Jc B gn gv N w s S → ∀ j, S j → B ≤ j ∧ j < w.heap.size := by
  rintro w s S ⟨h1, h2, h3, h4, h5, rfl⟩ j (rfl | rfl)
  · exact ⟨h3, (Array.getElem?_eq_some_iff.1 h1).1⟩
  · exact ⟨h4, (Array.getElem?_eq_some_iff.1 h2).1⟩
theorem Jc.two {B gn gv : Nat} {N : Int} : ∀ w w' s S T, Jc B gn gv N w s S → Turn T w w' → (∀ j, S j → ¬ T j) → Jc B gn gv N w' s S := by
  rintro w w' s S T ⟨h1, h2, h3, h4, h5, rfl⟩ ht hd
  exact ⟨(ht.block gv (Array.getElem?_eq_some_iff.1 h1).1 (hd gv (.inl rfl))).trans h1, (ht.block gn (Array.getElem?_eq_some_iff.1 h2).1 (hd gn (.inr rfl))).trans h2, h3, h4, h5, rfl⟩

set_option maxRecDepth 100000 in
set_option maxHeartbeats 4000000 in
theorem count_fun (B gn gv : Nat) (N : Int) : ∀ w s S (ps : List Int) (g m c : Nat), Jc B gn gv N w s S → ps.length = m → m ≤ 1000 →
    Calls Try.prog 78 #[.slice (some ⟨g, 0, none⟩) m c, .pointer (some ⟨gn, 0, none⟩), .pointer (some ⟨gv, 0, none⟩)] w fun e w' => e = .returned (.tuple #[]) ∧ ∃ S', Jc B gn gv N w' (cw N s ps) S' ∧ Turn S w w' ∧ ∀ j, S' j → S j ∨ w.heap.size ≤ j := by
  rintro w s S ps g m c ⟨h1, h2, h3, h4, h5, rfl⟩ hm hl
  have hc0 : w.cell? ⟨gv, 0, none⟩ = some (.int .i64 s) := (cell_of_row w gv 0 _ _ _ h1).trans rfl
  have hc1 : w.cell? ⟨gn, 0, none⟩ = some (.int .i64 N) := (cell_of_row w gn 0 _ _ _ h2).trans rfl
  have hf1 : w.frozen? ⟨gv, 0, none⟩ = false := frozen_of_row w gv 0 _ _ h1
  have HM := Lib.hid hm
  have H1 := Lib.hid h1
  have H2 := Lib.hid h2
  have H3 := Lib.hid h3
  have H4 := Lib.hid h4
  have H5 := Lib.hid h5
  clear hm h1 h2 h3 h4 h5
  by_cases he : (m : Int) = N
  · have HG := Lib.hid (show cw N s ps = wrap64 (s + 1) by unfold cw; rw [if_pos (by rw [HM.out]; exact he)])
    have hd : ((m : Int) == N) = true := beq_iff_eq.2 he
    clear he
    go_enter Try.func78, Try.ntmps78
    go_wp2_with fail
    go_end0
    refine ⟨rfl, fun j => j = gv ∨ j = gn, ⟨?_, ?_, H3.out, H4.out, H5.out, rfl⟩, ⟨rfl, rfl, rfl, by simp, fun j hj hs => heap_setCell_other w ⟨gv, 0, none⟩ j _ (fun e => hs (.inl e))⟩, fun j h => .inl h⟩
    · rw [HG.out]
      exact heap_setCell_same w gv 0 _ _ _ H1.out
    · exact (heap_setCell_other w ⟨gv, 0, none⟩ gn _ H5.out).trans H2.out
  · have HG := Lib.hid (show cw N s ps = s by unfold cw; rw [if_neg (by rw [HM.out]; exact he)])
    have hd : ((m : Int) == N) = false := beq_eq_false_iff_ne.2 he
    clear he
    go_enter Try.func78, Try.ntmps78
    go_wp2_with fail
    go_end0
    exact ⟨rfl, fun j => j = gv ∨ j = gn, ⟨by rw [HG.out]; exact H1.out, H2.out, H3.out, H4.out, H5.out, rfl⟩, Turn.refl _ _, fun j h => .inl h⟩
end Go.Proofs.Ytbimbaogjknboaa.cards
