/- Maps compared; slices of Maps. -/
import Derived.Test.YtngfdfgeoieebaaMv
import Derived.Maps.AppendAt
namespace Go.Proofs.Ytngfdfgeoieebaa.maps
open Go.RowKit
open cards reg
set_option linter.unusedVariables false
instance : DecidableEq Mp := fun x y => if h : x.t = y.t ∧ x.v0 = y.v0 ∧ x.v1 = y.v1 ∧ x.v2 = y.v2 ∧ x.v3 = y.v3 then isTrue (Mp.ext' h.1 h.2.1 h.2.2.1 h.2.2.2.1 h.2.2.2.2) else isFalse (fun e => h (by subst e; exact ⟨rfl, rfl, rfl, rfl, rfl⟩))
def sameM (x y : Mp) : Bool := decide (x = y)
theorem sameM_iff {x y : Mp} : sameM x y = true ↔ x = y := decide_eq_true_iff
def litsM (m : Mp) : List Lit := [.int .i64 m.t.a, .int .i64 m.t.b, .int .i64 m.t.c, .int .i64 m.t.d, .int .i64 m.v0.a, .int .i64 m.v0.b, .int .i64 m.v0.c, .int .i64 m.v1.a, .int .i64 m.v1.b, .int .i64 m.v1.c, .int .i64 m.v2.a, .int .i64 m.v2.b, .int .i64 m.v2.c, .int .i64 m.v3.a, .int .i64 m.v3.b, .int .i64 m.v3.c]
set_option maxRecDepth 100000 in
set_option maxHeartbeats 4000000 in
theorem key_litsM (m : Mp) (h : m.ok = true) : (Try.prog).keyLits 5 28 m.val.cells.toList = some (litsM m) := by
  obtain ⟨h0, h1, h2, h3, ht⟩ := Mp.ok_iff.1 h
  have k0 := A3.pm_iff.1 h0
  have k1 := A3.pm_iff.1 h1
  have k2 := A3.pm_iff.1 h2
  have k3 := A3.pm_iff.1 h3
  have kt := Cd.pm_iff.1 ht
  have a0 := wf_small kt.1.1 (by omega)
  have a1 := wf_small kt.2.1.1 (by omega)
  have a2 := wf_small kt.2.2.1.1 (by omega)
  have a3 := wf_small kt.2.2.2.1.1 (by omega)
  have b0 := wf_small k0.1.1 (by omega)
  have b1 := wf_small k0.2.1.1 (by omega)
  have b2 := wf_small k0.2.2.1.1 (by omega)
  have c0 := wf_small k1.1.1 (by omega)
  have c1 := wf_small k1.2.1.1 (by omega)
  have c2 := wf_small k1.2.2.1.1 (by omega)
  have d0 := wf_small k2.1.1 (by omega)
  have d1 := wf_small k2.2.1.1 (by omega)
  have d2 := wf_small k2.2.2.1.1 (by omega)
  have e0 := wf_small k3.1.1 (by omega)
  have e1 := wf_small k3.2.1.1 (by omega)
  have e2 := wf_small k3.2.2.1.1 (by omega)
  have ce : (Try.prog).cellsOf 3 = 1 := by kernel_rfl
  have ct : (Try.prog).cellsOf 22 = 4 := by kernel_rfl
  have c3 : (Try.prog).cellsOf 23 = 3 := by kernel_rfl
  have cr : (Try.prog).cellsOf 24 = 12 := by kernel_rfl
  have cm : (Try.prog).cellsOf 28 = 16 := by kernel_rfl
  simp [Program.keyLits, Try.underlying28, Try.underlying22, Try.underlying24, Try.underlying23, Try.underlying3, Value.cells, ce, ct, c3, cr, cm, a0, a1, a2, a3, b0, b1, b2, c0, c1, c2, d0, d1, d2, e0, e1, e2, show List.range 4 = [0, 1, 2, 3] from rfl, show List.range 3 = [0, 1, 2] from rfl, litsM]
theorem eq_runM (x y : Mp) (hx : x.ok = true) (hy : y.ok = true) (w : World) : (Op.equalIn 10000 28 x.val y.val).run Try.prog w = .ok (sameM x y) w := by
  obtain ⟨r, hr, hi⟩ := run_equalIn_deep (P := Try.prog) 9996 4 28 (by kernel_rfl) w 5 5 x.val y.val (litsM x) (litsM y) (by kernel_rfl) (by kernel_rfl) (key_litsM x hx) (key_litsM y hy)
  have e : r = sameM x y := by
    rw [Bool.eq_iff_iff, hi, sameM_iff]
    obtain ⟨⟨a, b, c, d⟩, ⟨e, f, g⟩, ⟨h, i, j⟩, ⟨k, l, m⟩, ⟨n, o, p⟩⟩ := x
    obtain ⟨⟨a', b', c', d'⟩, ⟨e', f', g'⟩, ⟨h', i', j'⟩, ⟨k', l', m'⟩, ⟨n', o', p'⟩⟩ := y
    simp only [litsM, List.cons.injEq, Lit.int.injEq, true_and, and_true, Mp.mk.injEq, Cd.mk.injEq, A3.mk.injEq, and_assoc]
  rw [← e]
  exact hr
/-- The call owns a slice of k Maps. -/
def OwnM (w : World) (B : Nat) (v : Value) (k : Nat) : Prop := ∃ xs, w.ownsRow B 28 16 v k xs
theorem OwnM.below {w w1 : World} {B : Nat} {v : Value} {k : Nat} (h : OwnM w B v k) (hb : Below w.heap.size w w1) : OwnM w1 B v k := by
  obtain ⟨xs, h⟩ := h
  exact ⟨xs, World.ownsRow.kept (row := none) h ⟨hb.os, hb.tape, hb.output, hb.size, fun j hj _ => hb.block j hj⟩ (by cases hv : v.ownBlock <;> simp)⟩
theorem OwnM.alloc {w : World} {B : Nat} {v : Value} {k : Nat} (h : OwnM w B v k) (o : Obj) : OwnM (w.alloc o) B v k := h.below ((Below.refl _ _).alloc (Nat.le_refl _) o)
theorem OwnM.one (w : World) (B : Nat) (hB : B ≤ w.heap.size) (m : Mp) : OwnM (w.alloc (Mv.obj ⟨28, m⟩)) B (.slice (some ⟨w.heap.size, 0, none⟩) 1 1) 1 :=
  ⟨m.vals.toList, rfl, .inr ⟨w.heap.size, 1, _, rfl, hB, heap_alloc_new w _, Nat.le_refl _, by simp [maxLen], rfl, rfl⟩⟩
theorem OwnM.lt {w : World} {B : Nat} {v : Value} {k : Nat} (h : OwnM w B v k) : ∀ g, v.ownBlock = some g → B ≤ g ∧ g < w.heap.size := by
  obtain ⟨xs, h⟩ := h; exact World.ownsRow.lt h
theorem OwnM.far {w : World} {B : Nat} {v : Value} {k : Nat} (h : OwnM w B v k) {p : Addr} (hp : ∀ g, v.ownBlock = some g → g ≠ p.block) (u : Value) : OwnM (w.setCell p u) B v k := by
  obtain ⟨xs, h⟩ := h
  exact ⟨xs, World.ownsRow.kept (row := some p.block) h ⟨rfl, rfl, rfl, by simp [World.setCell], fun k hk hne => Below.heap_setCell _ _ _ _ (fun e => hne (by rw [e]))⟩ (by
    cases hv : v.ownBlock with
    | none => simp
    | some g => exact .inr (fun e => hp g hv (by injection e)))⟩
theorem OwnM.grown {w w1 : World} {B : Nat} {v : Value} {k : Nat} {row : Option Nat} (h : OwnM w B v k) (hg : w.grownBy w1 row) (hne : ∀ g, v.ownBlock = some g → row ≠ some g) : OwnM w1 B v k := by
  obtain ⟨xs, h⟩ := h
  exact ⟨xs, World.ownsRow.kept h hg (by
    cases hv : v.ownBlock with
    | none => simp
    | some g => exact .inr (Ne.symm (hne g hv)))⟩
theorem OwnM.form {w : World} {B : Nat} {v : Value} {k : Nat} (h : OwnM w B v k) : ∃ p c, v = .slice p k c := by
  obtain ⟨xs, _, ⟨rfl, rfl⟩ | ⟨g, cap, cur, rfl, _⟩⟩ := h
  · exact ⟨_, _, rfl⟩
  · exact ⟨_, _, rfl⟩
theorem map_info : ((Try.prog).info? 28).map (fun i => (i.zero, i.size, i.bytes)) = some (some zeroM.val, 16, 128) := by kernel_rfl
/-- One Map is appended. -/
theorem append_mp {ops : Array Oper} {rest : List Oper} {o : Oper} {a : Act} {Q : Exit → Act → World → Prop} (hgd : o.guard = none) (s x : Operand)
    (ho : o.op = .call { callee := .builtin .append, args := #[s, x], argTypes := #[77, 77] }) (B : Nat) (v : Value) (k : Nat) (q : Mp) (W : World) (g : Nat) (hg : W.heap.size = g)
    (hs : a.eval s = v) (hx : a.eval x = .slice (some ⟨g, 0, none⟩) 1 1) (hO : OwnM W B v k) (hl : k ≤ 1000000) (hB : B ≤ W.heap.size)
    (h : ∀ v' w', OwnM w' B v' (k + 1) → Below B W w' → W.grownBy w' v.ownBlock → (v'.ownBlock = v.ownBlock ∨ v'.ownBlock = some (W.heap.size + 1)) → wpList Try.prog ops Q rest (a.put o.dst v') w') : wpList Try.prog ops Q (o :: rest) a (W.alloc (Mv.obj ⟨28, q⟩)) := by
  subst hg
  obtain ⟨i, hi, hz, hsz, hb⟩ := info_parts map_info
  obtain ⟨xs, hO⟩ := hO
  have he : (W.alloc (Mv.obj ⟨28, q⟩)).heap.size = W.heap.size + 1 := by simp
  have hK : (W.alloc (Mv.obj ⟨28, q⟩)).ownsRow B 28 16 v k xs := by
    have h1 : OwnM W B v k := ⟨xs, hO⟩
    exact World.ownsRow.kept (row := none) hO (World.grownBy_alloc W _ _) (by cases hv : v.ownBlock <;> simp)
  refine wpList_append_own_at (P := Try.prog) (W.alloc (Mv.obj ⟨28, q⟩)) hgd s x 77 ho B 28 i zeroM.val 16 128 Try.underlying77 hi hz hsz hb rfl (by decide) v k xs hs hK ⟨W.heap.size, 0, none⟩ 1 1 q.vals.toList hx rfl ?_ ?_ ?_ ?_ ?_ ?_
  · intro j u hu
    have hadd : (⟨W.heap.size, 0, none⟩ : Addr).add j = ⟨W.heap.size, j, none⟩ := by
      unfold Addr.add; split <;> simp_all
    rw [hadd, cell_of_row _ _ j _ _ _ (heap_alloc_new W _)]
    rw [← hu]; simp
  · intro u hu; simp at hu; rcases hu with rfl | rfl | rfl | rfl | rfl | rfl | rfl | rfl | rfl | rfl | rfl | rfl | rfl | rfl | rfl | rfl <;> rfl
  · simp only [maxLen]; omega
  · omega
  · omega
  · intro v' w' h1 h2 _ h4
    exact h v' w' ⟨_, h1⟩ (((Below.refl _ _).alloc hB _).grown h2 (by omega) (fun k hk => (World.ownsRow.lt hO k hk).1)) ((World.grownBy_alloc W _ _).trans h2) (by rw [he] at h4; exact h4)
end Go.Proofs.Ytngfdfgeoieebaa.maps
