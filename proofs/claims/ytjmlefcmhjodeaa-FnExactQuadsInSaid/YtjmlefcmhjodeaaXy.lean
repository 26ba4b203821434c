/- Four places sorted in their array; a row of quads sorted by the program's comparing function. -/
import Derived.Test.YtjmlefcmhjodeaaXx
import Derived.Test.YtjmlefcmhjodeaaSz
import Derived.Test.YtjmlefcmhjodeaaSf
import Derived.Test.YtjmlefcmhjodeaaSl
namespace Go.Proofs.Ytjmlefcmhjodeaa.others
open Go.RowKit
open cards
set_option linter.unusedVariables false

theorem le_perm : ∀ {a b : List Int}, a.Pairwise (· ≤ ·) → b.Pairwise (· ≤ ·) → a.Perm b → a = b
  | [], b, _, _, h => (List.nil_perm.1 h).symm
  | x :: a, [], _, _, h => by have := h.length_eq; simp at this
  | x :: a, y :: b, ha, hb, h => by
    obtain ⟨ha1, ha2⟩ := List.pairwise_cons.1 ha
    obtain ⟨hb1, hb2⟩ := List.pairwise_cons.1 hb
    have h1 : x ≤ y := by
      rcases List.mem_cons.1 (h.mem_iff.2 (.head _) : y ∈ x :: a) with e | e
      · omega
      · exact ha1 y e
    have h2 : y ≤ x := by
      rcases List.mem_cons.1 (h.mem_iff.1 (.head _) : x ∈ y :: b) with e | e
      · omega
      · exact hb1 x e
    obtain rfl : x = y := by omega
    rw [le_perm ha2 hb2 (List.Perm.cons_inv h)]
def fl (x : Cd) : List Int := [x.a, x.b, x.c, x.d]
theorem box_holds {w : World} {g : Nat} {x : Cd} (h : Box w g x) : Go.Sort.Holds (Value.int .i64) w g 0 (fl x).toArray := by
  intro j hj
  have hj' : j < 4 := by simpa [fl] using hj
  refine ⟨?_, h.frozen (0 + j)⟩
  rw [Nat.zero_add]
  obtain ⟨h0, h1, h2, h3⟩ := h.cell
  rcases (show j = 0 ∨ j = 1 ∨ j = 2 ∨ j = 3 by omega) with rfl | rfl | rfl | rfl
  · exact h0
  · exact h1
  · exact h2
  · exact h3
theorem box_put {w : World} {g : Nat} {x : Cd} (h : Box w g x) (y : Cd) (q : Nat) (os : Array Obj) :
    Box (Go.Sort.grow (Go.Sort.putRow (Value.int .i64) (Go.Sort.ahead w q) g 0 (fl y).toArray) os) g y ∧ w.grownBy (Go.Sort.grow (Go.Sort.putRow (Value.int .i64) (Go.Sort.ahead w q) g 0 (fl y).toArray) os) (some g) := by
  have hh : ∀ k, (Go.Sort.putRow (Value.int .i64) (Go.Sort.ahead w q) g 0 (fl y).toArray).heap[k]? = if g = k then (w.heap[k]?).map (Go.Sort.onCells (Go.Sort.putCells (Value.int .i64) 0 (fl y).toArray)) else w.heap[k]? := fun k => by
    unfold Go.Sort.putRow Go.Sort.mapBlock Go.Sort.ahead
    simp only [Array.getElem?_modify]
  have hsz : (Go.Sort.putRow (Value.int .i64) (Go.Sort.ahead w q) g 0 (fl y).toArray).heap.size = w.heap.size := by
    unfold Go.Sort.putRow Go.Sort.mapBlock Go.Sort.ahead
    simp
  have hlt := h.lt
  refine ⟨?_, ⟨rfl, rfl, rfl, ?_, fun k hk hne => ?_⟩⟩
  · unfold Box at h ⊢
    show (_ ++ os)[g]? = _
    rw [Array.getElem?_append_left (by rw [hsz]; exact hlt), hh, if_pos rfl, h]
    rfl
  · show w.heap.size ≤ (_ ++ os).size
    rw [Array.size_append, hsz]; omega
  · show (_ ++ os)[k]? = _
    rw [Array.getElem?_append_left (by rw [hsz]; exact hk), hh, if_neg (fun e => hne (by rw [e]))]
theorem sort_box (x y : Cd) (g : Nat) (w : World) (h : Box w g x) (hp : (fl y).Perm (fl x)) (hy : (fl y).Pairwise (· ≤ ·)) :
    Calls Try.prog 74 #[.slice (some ⟨g, 0, none⟩) 4 4] w fun e w' => e = .returned (.tuple #[]) ∧ Box w' g y ∧ w.grownBy w' (some g) := by
  have hcon := Go.Proofs.Try.slices_Sort_int g 0 4 (fl x) w (box_holds h) h.lt (by simp [fl])
  change Calls Try.prog 74 _ _ _ at hcon
  refine hcon.mono ?_
  rintro e w' ⟨rfl, q, os, rfl⟩
  have hsrt := List.pairwise_mergeSort (le := fun x y : Int => decide (x ≤ y)) (by intro a b c; simp; omega) (by intro a b; simp; omega) (fl x)
  have e : (fl x).mergeSort (fun x y => decide (x ≤ y)) = fl y := le_perm (hsrt.imp (by intro a b; simp)) hy ((List.mergeSort_perm _ _).trans hp.symm)
  rw [e]
  exact ⟨rfl, box_put h y q os⟩
theorem q4_perm (p q : A2) : (fl (q4 p q)).Perm [p.a, p.b, q.a, q.b] := by
  unfold q4 fl
  by_cases c1 : p.a < q.a
  · simp only [c1, if_true]
    exact List.Perm.cons _ (by
      have h : [q.a, q.b, p.b].Perm ([p.b] ++ [q.a, q.b]) := List.perm_append_comm (l₁ := [q.a, q.b]) (l₂ := [p.b])
      exact h)
  · by_cases c2 : p.a < q.b
    · simp only [c1, c2, if_true, if_false]
      have h1 : [q.a, p.a, q.b, p.b].Perm [p.a, q.a, q.b, p.b] := List.Perm.swap _ _ _
      have h2 : [q.a, q.b, p.b].Perm ([p.b] ++ [q.a, q.b]) := List.perm_append_comm (l₁ := [q.a, q.b]) (l₂ := [p.b])
      exact h1.trans (List.Perm.cons _ h2)
    · simp only [c1, c2, if_false]
      exact List.perm_append_comm (l₁ := [q.a, q.b]) (l₂ := [p.a, p.b])
theorem q4_asc {p q : A2} (hp : p.a < p.b) (hq : q.a < q.b) (h : q.b < p.b) : (fl (q4 p q)).Pairwise (· ≤ ·) := by
  unfold q4 fl
  by_cases c1 : p.a < q.a
  · simp only [c1, if_true]; simp; omega
  · by_cases c2 : p.a < q.b
    · simp only [c1, c2, if_true, if_false]; simp; omega
    · simp only [c1, c2, if_false]; simp; omega
theorem lex_cmp (x y : Cd) : cmpC x y < 0 ↔ lex x y := cmpC_lt x y

set_option maxRecDepth 100000 in
set_option maxHeartbeats 4000000 in
theorem quad_grow (x y : Cd) (w : World) :
    Calls Try.prog 76 #[x.val, y.val] w fun e w' => e = .returned (.int .i64 (cmpC x y)) ∧ ∃ q os, w' = Go.Sort.grow (w.drewN q) os := by
  have HK0 : Hid (Box ((w.alloc x.obj).alloc y.obj) w.heap.size x) := Lib.hid ((Box.newAt rfl rfl).alloc _)
  have HK1 : Hid (Box ((w.alloc x.obj).alloc y.obj) (w.heap.size + 1) y) := Lib.hid (Box.newAt (by simp) rfl)
  go_enter Try.func76, Try.ntmps76
  go_upto_region 1 with fail
  go_quiet ((go_at_call 77; exact Calls.quiet_of_same ((slices_cmp x y _ _ _ (HK0.out.drewN _) (HK1.out.drewN _)).mono fun _ _ h => ⟨h.1, h.2.symm⟩)))
  go_wp2_with fail
  go_ret
  exact ⟨rfl, _, _, by rw [Go.Sort.alloc_eq_grow, Go.Sort.alloc_eq_grow, Go.Sort.grow_grow]; rfl⟩
theorem quad_lays (blk off size : Nat) (w : World) : Go.Proofs.CmpLays Try.prog 76 #[] Cd.cells 4 cmpC blk off size w := fun _ _ _ _ x y => quad_grow x y _
theorem sort_quads (l : List Cd) (g n cap B : Nat) (w : World) (hn : l.length = n) (hl : n ≤ 1000000000) (hO : Own w B (.slice (some ⟨g, 0, none⟩) n cap) l) :
    Calls Try.prog 75 #[.slice (some ⟨g, 0, none⟩) n cap, .func (.func 76) #[] #[]] w fun e w' => e = .returned (.tuple #[]) ∧ ∃ l' : List Cd, l'.Perm l ∧ l'.length = n ∧ (∀ (i j : Nat) (x y : Cd), i < j → l'[i]? = some x → l'[j]? = some y → ¬ lex y x) ∧ Own w' B (.slice (some ⟨g, 0, none⟩) n cap) l' ∧ w.grownBy w' (some g) := by
  have eg : ∀ args w, (callFunc 76 args).run Try.prog w = .ok (.enter 76 args) w := enters_of Try.func76 (by kernel_rfl) rfl
  have hg : g < w.heap.size := (World.ownsRow.lt hO g rfl).2
  have hcon := Go.Proofs.AnyQ.slices_SortFunc Go.Proofs.Try.sortCd 4 Try.isAgg25 Try.sizeOf25 Cd.cells (fun _ => rfl) (fun x v hv => by simp [Cd.cells] at hv; rcases hv with rfl | rfl | rfl | rfl <;> rfl) cmpC swoC 76 #[] g 0 cap l.toArray w eg (quad_lays g 0 _ w) (own_holds hn hO) hg (by simp; omega)
  have hsz : l.toArray.size = n := by simpa using hn
  rw [hsz] at hcon
  change Calls Try.prog 75 _ _ _ at hcon
  refine hcon.mono ?_
  rintro e w' ⟨rfl, d', q, os, ⟨hp1, hp2, hp3⟩, hs, rfl⟩
  have hd : d'.size = n := by rw [hp1, hsz]
  have e1 : (d'.extract 0 n).toList = d'.toList := by rw [← hd]; simp
  have e2 : (l.toArray.extract 0 n).toList = l := by rw [← hsz]; simp
  rw [e1, e2] at hp3
  have hlen : d'.toList.length = n := by simpa using hd
  have ho := own_put (q := q) (os := os) hn hlen hO
  refine ⟨rfl, d'.toList, hp3, hlen, fun i j x y hij hx hy => ?_, ?_, ?_⟩
  · have hj : j < n := by have := (List.getElem?_eq_some_iff.1 hy).1; omega
    have := hs i j (Nat.zero_le _) hij hj
    rw [ltC, decide_eq_false_iff_not] at this
    have g1 : d'[j]! = y := by
      rw [getElem!_def, ← Array.getElem?_toList, hy]
    have g2 : d'[i]! = x := by
      rw [getElem!_def, ← Array.getElem?_toList, hx]
    rw [g1, g2] at this
    rw [← lex_cmp]; exact this
  · have h := ho.1; rw [Array.toArray_toList] at h; exact h
  · have h := ho.2; rw [Array.toArray_toList] at h; exact h
end Go.Proofs.Ytjmlefcmhjodeaa.others
