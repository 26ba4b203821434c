/- Draws: a card, and one that is often near another one. -/
import Derived.Test.YtnibkipepmakgaaKb
import Derived.Test.YtnibkipepmakgaaC3
import Derived.Deep.DeepCutAuto
import Derived.Deep.RegionLaw
namespace Go.Proofs.Ytnibkipepmakgaa.draw
open Go.RowKit
open cards
set_option linter.unusedVariables false

def wf4 (x : Cd) : Prop := (Lit.int .i64 x.a).wf = true ∧ (Lit.int .i64 x.b).wf = true ∧ (Lit.int .i64 x.c).wf = true ∧ (Lit.int .i64 x.d).wf = true
theorem wf4_ok {x : Cd} (h : x.ok = true) : wf4 x := by
  obtain ⟨⟨x1, x2⟩, ⟨x3, x4⟩, ⟨x5, x6⟩, x7, x8⟩ := Cd.bd h
  exact ⟨wf_small x1 (by omega), wf_small x3 (by omega), wf_small x5 (by omega), wf_small x7 (by omega)⟩
theorem Cur.lt {w : World} {g : Nat} {p : Option Addr} {n c : Nat} {l : List Int} {N : Nat} (h : Cur w g p n c l N) : g < w.heap.size := by
  obtain ⟨a, s, hb, _⟩ := h
  exact hb.lt
theorem Cur.below {w w1 : World} {g : Nat} {p : Option Addr} {n c : Nat} {l : List Int} {N : Nat} (h : Cur w g p n c l N) (b : Below w.heap.size w w1) : Cur w1 g p n c l N := by
  obtain ⟨a, s, hb, h0, h1, hr, h2⟩ := h
  exact ⟨a, s, hb.below b, h0, h1, Rd.below hr b, h2⟩
theorem Cur.alloc {w : World} {g : Nat} {p : Option Addr} {n c : Nat} {l : List Int} {N : Nat} (h : Cur w g p n c l N) (o : Obj) : Cur (w.alloc o) g p n c l N := h.below ((Below.refl _ _).alloc (Nat.le_refl _) o)
theorem Cur.drew {w : World} {g : Nat} {p : Option Addr} {n c : Nat} {l : List Int} {N : Nat} (h : Cur w g p n c l N) : Cur w.drew g p n c l N := h
/-- Where the code lies. -/
def Far (p : Option Addr) (n B : Nat) : Prop := 0 < n → ∀ q, p = some q → q.block < B
theorem Cur.far {w : World} {g : Nat} {p : Option Addr} {n c : Nat} {l : List Int} {N : Nat} (h : Cur w g p n c l N) : Far p n w.heap.size := fun h0 q e => by
  obtain ⟨a, s, hb, _, _, hr, hl, _, hd⟩ := h
  obtain ⟨b, o, e2, hb, _⟩ := hr (by simp; omega)
  rw [e2] at e
  cases e
  exact hb
theorem Cur.by_ {w w1 : World} {g g2 : Nat} {p : Option Addr} {n c : Nat} {l : List Int} {N : Nat} (h : Cur w g p n c l N) (hG : w.grownBy w1 (some g2)) (hne : g < g2) (hf : Far p n g2) : Cur w1 g p n c l N := by
  obtain ⟨a, s, hb, h0, h1, hr, hl, h2⟩ := h
  exact ⟨a, s, (hG.block g hb.lt (fun e => by injection e with e; omega)).trans hb, h0, h1, Rd.grown hr hG (fun hp q e e2 => by have := hf (by simp at hp; omega) q e; omega), hl, h2⟩
theorem cdAt_okC {n : Int} (h0 : 0 ≤ n) (h1 : n ≤ 80) : (cdAt n).ok = true := Cd.mk_ok (by unfold cdAt; simp only; omega)
theorem Box.by_ {w w1 : World} {g m : Nat} {x : Cd} (h : Box w g x) (hg : w.grownBy w1 (some m)) (hne : m ≠ g) : Box w1 g x :=
  (hg.block g (Box.lt h) (fun e => hne (by cases e; rfl))).trans h

theorem grown_fresh {a w w1 : World} {g m : Nat} (h : a.grownBy w (some g)) (k : w.grownBy w1 (some m)) (hm : a.heap.size ≤ m) : a.grownBy w1 (some g) :=
  ⟨k.os.trans h.os, k.tape.trans h.tape, k.output.trans h.output, Nat.le_trans h.size k.size, fun i hi hr => (k.block i (Nat.lt_of_lt_of_le hi h.size) (fun e => by injection e with e; omega)).trans (h.block i hi hr)⟩
theorem grown_set4 (w : World) (g : Nat) (x : Cd) : w.grownBy ((((w.setCell ⟨g, 0, none⟩ (.int .i64 x.a)).setCell ⟨g, 1, none⟩ (.int .i64 x.b)).setCell ⟨g, 2, none⟩ (.int .i64 x.c)).setCell ⟨g, 3, none⟩ (.int .i64 x.d)) (some g) :=
  (((grown_set w g 0 _).trans (grown_set _ g 1 _)).trans (grown_set _ g 2 _)).trans (grown_set _ g 3 _)
theorem load_cardC {w : World} {g : Nat} {x : Cd} (h : Box w g x) : (loadVar 54 ⟨g, 0, none⟩).run Try.prog w = .ok x.val w :=
  run_loadVar_row w g 54 54 _ (0, 0) _ h Try.underlying54 rfl (by kernel_rfl)
theorem res_cardC {fn : Func} {i : Tmp} (hf : fn.results = #[.cell i 54]) {tmps : Array Value} {w : World} {g : Nat} {m : Cd} (ht : tmps.getD i undef = .pointer (some ⟨g, 0, none⟩)) (h : Box w g m) :
    (results fn tmps).run Try.prog w = .ok m.val w := by
  have hl := load_cardC h
  rw [Array.getD_eq_getD_getElem?] at ht
  simp only [results, hf]
  simp [Sem.run_bind, ht, asAddr, hl]
theorem Box.put0 {w : World} {g : Nat} {x : Cd} (h : Box w g x) (a : Int) : Box (w.setCell ⟨g, 0, none⟩ (.int .i64 a)) g ⟨a, x.b, x.c, x.d⟩ := by
  unfold Box at h ⊢; rw [heap_setCell_same _ g _ _ _ _ h]; rfl
theorem Box.put1 {w : World} {g : Nat} {x : Cd} (h : Box w g x) (a : Int) : Box (w.setCell ⟨g, 1, none⟩ (.int .i64 a)) g ⟨x.a, a, x.c, x.d⟩ := by
  unfold Box at h ⊢; rw [heap_setCell_same _ g _ _ _ _ h]; rfl
theorem Box.put2 {w : World} {g : Nat} {x : Cd} (h : Box w g x) (a : Int) : Box (w.setCell ⟨g, 2, none⟩ (.int .i64 a)) g ⟨x.a, x.b, a, x.d⟩ := by
  unfold Box at h ⊢; rw [heap_setCell_same _ g _ _ _ _ h]; rfl
theorem Box.put3 {w : World} {g : Nat} {x : Cd} (h : Box w g x) (a : Int) : Box (w.setCell ⟨g, 3, none⟩ (.int .i64 a)) g ⟨x.a, x.b, x.c, a⟩ := by
  unfold Box at h ⊢; rw [heap_setCell_same _ g _ _ _ _ h]; rfl
/-- A number put at one of a card's four places. -/
def putAt (x : Cd) (a : Int) : Nat → Cd
  | 0 => ⟨a, x.b, x.c, x.d⟩
  | 1 => ⟨x.a, a, x.c, x.d⟩
  | 2 => ⟨x.a, x.b, a, x.d⟩
  | _ => ⟨x.a, x.b, x.c, a⟩
theorem Box.put {w : World} {g : Nat} {x : Cd} (h : Box w g x) (a : Int) {k : Nat} (hk : k < 4) : Box (w.setCell ⟨g, k, none⟩ (.int .i64 a)) g (putAt x a k) := by
  rcases (show k = 0 ∨ k = 1 ∨ k = 2 ∨ k = 3 by omega) with rfl | rfl | rfl | rfl
  · exact Box.put0 h a
  · exact Box.put1 h a
  · exact Box.put2 h a
  · exact Box.put3 h a
theorem wf_put {x : Cd} (h : wf4 x) {a : Int} (ha : (Lit.int .i64 a).wf = true) (k : Nat) : wf4 (putAt x a k) := by
  obtain ⟨h1, h2, h3, h4⟩ := h
  unfold putAt
  split
  · exact ⟨ha, h2, h3, h4⟩
  · exact ⟨h1, ha, h3, h4⟩
  · exact ⟨h1, h2, ha, h4⟩
  · exact ⟨h1, h2, h3, ha⟩

end Go.Proofs.Ytnibkipepmakgaa.draw
