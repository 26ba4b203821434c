/- Draws of texts. -/
import Derived.Test.YtcjmlddpjbneiaaKe
import Derived.Test.YtcjmlddpjbneiaaSv
import Derived.Laws.BytesArg
namespace Go.Proofs.Ytcjmlddpjbneiaa.draw
open Go.RowKit
open cards
set_option linter.unusedVariables false

set_option maxRecDepth 100000 in
set_option maxHeartbeats 4000000 in
theorem of_ (xs : List ByteArray) (g b2 m c2 : Nat) (p : Option Addr) (n c : Nat) (l : List Int) (N : Nat) (w : World) (hN : N ≤ 900000) (hm : n ≤ 1000000000) (hk : 1 ≤ m) (hk2 : m ≤ 1000000000) (hx : xs.length = m) (hr : Rd w (some ⟨b2, 0, none⟩) (tx xs)) (hne : b2 ≠ g) (h : Cur w g p n c l N) :
    Calls Try.prog 29 #[.pointer (some ⟨g, 0, none⟩), .slice (some ⟨b2, 0, none⟩) m c2] w fun e w' => ∃ x : ByteArray, e = .returned (.string x) ∧ x ∈ xs ∧ Cur w' g p n c l (N + 2) ∧ w.grownBy w' (some g) := by
  have HC := Lib.hid h
  have HX := Lib.hid hx
  have HR := Lib.hid hr
  clear h hx hr
  go_enter Try.func29, Try.ntmps29
  go_wp2_with fail
  refine (pick_ m g p n c l N _ hN hm (by omega) (by omega) HC.out).mono ?_
  rintro e w1 ⟨b, rfl, b0, b1, C, G⟩
  have HC := Lib.hid C
  have HR := Lib.hid (Rd.grown HR.out G (fun _ q e => by cases e; exact hne))
  have HG := Lib.hid G
  clear C G
  obtain ⟨k, rfl⟩ : ∃ k : Nat, b = k := ⟨b.toNat, by omega⟩
  have hk : k < xs.length := by have := HX.out; omega
  have hx : xs[k]? = some xs[k] := List.getElem?_eq_getElem hk
  obtain ⟨x, hxx⟩ : ∃ x, xs[k] = x := ⟨_, rfl⟩
  rw [hxx] at hx
  have HM := Lib.hid (List.mem_of_getElem? hx)
  obtain ⟨_, _, e, _, hc⟩ := HR.out (by rw [tx_len]; omega)
  cases e
  have c0 : w1.cell? ⟨b2, 0 + k, none⟩ = some (.string x) := hc k _ (by rw [tx_at, hx]; rfl)
  have m2 : (0 : Int) ≤ k := by omega
  rw [Nat.zero_add] at c0
  clear hc hx hxx hk
  go_wp2_with fail
  go_ret
  exact ⟨_, rfl, HM.out, HC.out, HG.out⟩
def anyL : List ByteArray := [⟨#[]⟩, ⟨#[97]⟩, ⟨#[97, 44, 98]⟩, ⟨#[115, 111, 109, 101, 32, 119, 111, 114, 100, 115]⟩, ⟨#[120, 35, 121]⟩, ⟨#[45, 49, 50]⟩, ⟨#[0, 255]⟩, ⟨#[44, 44]⟩, ⟨#[48]⟩]
def sepL : List ByteArray := [⟨#[44]⟩, ⟨#[44]⟩, ⟨#[32]⟩, ⟨#[]⟩, ⟨#[44, 44]⟩]
def mrkL : List ByteArray := [⟨#[44]⟩, ⟨#[59]⟩, ⟨#[59]⟩, ⟨#[]⟩, ⟨#[97, 98]⟩]
theorem any_size : ∀ x ∈ anyL, x.size ≤ 20 := fun x hx => by
  have h : anyL.all (fun x => decide (x.size ≤ 20)) = true := by decide
  exact of_decide_eq_true (List.all_eq_true.1 h x hx)
theorem sep_size : ∀ x ∈ sepL, x.size ≤ 20 := fun x hx => by
  have h : sepL.all (fun x => decide (x.size ≤ 20)) = true := by decide
  exact of_decide_eq_true (List.all_eq_true.1 h x hx)
theorem mrk_size : ∀ x ∈ mrkL, x.size ≤ 20 := fun x hx => by
  have h : mrkL.all (fun x => decide (x.size ≤ 20)) = true := by decide
  exact of_decide_eq_true (List.all_eq_true.1 h x hx)
set_option maxRecDepth 100000 in
set_option maxHeartbeats 4000000 in
theorem any1_ (g : Nat) (p : Option Addr) (n c : Nat) (l : List Int) (N : Nat) (w : World) (hN : N ≤ 900000) (hm : n ≤ 1000000000) (h : Cur w g p n c l N) :
    Calls Try.prog 28 #[.pointer (some ⟨g, 0, none⟩)] w fun e w' => ∃ x : ByteArray, e = .returned (.string x) ∧ x.size ≤ 20 ∧ Cur w' g p n c l (N + 2) ∧ w.grownBy w' (some g) := by
  have HC := Lib.hid h
  have HL := Lib.hid (Cur.lt h)
  clear h
  go_enter Try.func28, Try.ntmps28
  go_wp2_with fail
  refine (of_ anyL g w.heap.size 9 9 p n c l N _ hN hm (by omega) (by omega) rfl (Rd.newAt rfl rfl) (by have := HL.out; omega) (HC.out.alloc _)).mono ?_
  rintro e w1 ⟨x, rfl, hx, C, G⟩
  have HC := Lib.hid C
  have HG := Lib.hid ((World.grownBy_alloc w _ _).trans G)
  have HX := Lib.hid (any_size x hx)
  clear C G hx
  go_wp2_with fail
  go_ret
  exact ⟨_, rfl, HX.out, HC.out, HG.out⟩
set_option maxRecDepth 100000 in
set_option maxHeartbeats 4000000 in
theorem draw_split (p : Option Addr) (n c : Nat) (l : List Int) (w : World) (hm : n ≤ 1000000000) (hr : Rd w p (bys l)) (hl : l.length = n) (hy : isByte l) :
    Calls Try.prog 8 #[.slice p n c] w fun e w' => ∃ s q : ByteArray, e = .returned (.tuple #[.string s, .string q]) ∧ s.size ≤ 20 ∧ q.size ≤ 20 ∧ Below w.heap.size w w' := by
  have HC : Hid (Cur (w.alloc (Cv.obj ⟨.slice p n c, 0, 0⟩)) w.heap.size p n c l 0) := Lib.hid (Cur.new rfl hr hl hy)
  have HB : Hid (Below w.heap.size w (w.alloc (Cv.obj ⟨.slice p n c, 0, 0⟩))) := Lib.hid ((Below.refl _ _).alloc (Nat.le_refl _) _)
  clear hr hl hy
  go_enter Try.func8, Try.ntmps8
  go_wp2_with fail
  refine (any1_ w.heap.size p n c l 0 _ (by omega) hm HC.out).mono ?_
  rintro e w1 ⟨x, rfl, hx, C, G⟩
  have HC := Lib.hid C
  have HB := Lib.hid (Below.grown HB.out G HB.out.size (fun k hk => by injection hk with hk; omega))
  have HX := Lib.hid hx
  have HL := Lib.hid (Cur.lt C)
  clear C G hx
  go_wp2_with fail
  refine (of_ sepL w.heap.size w1.heap.size 5 5 p n c l 2 _ (by omega) hm (by omega) (by omega) rfl (Rd.newAt rfl rfl) (by have := HL.out; omega) (HC.out.alloc _)).mono ?_
  rintro e w2 ⟨y, rfl, hy, C, G⟩
  have HB := Lib.hid (Below.grown (HB.out.alloc HB.out.size _) G (by have := HB.out.size; simp; omega) (fun k hk => by injection hk with hk; omega))
  have HY := Lib.hid (sep_size y hy)
  clear C G hy
  go_wp2_with fail
  go_ret2
  exact ⟨x, y, rfl, HX.out, HY.out, HB.out⟩
set_option maxRecDepth 100000 in
set_option maxHeartbeats 4000000 in
theorem draw_less (p : Option Addr) (n c : Nat) (l : List Int) (w : World) (hm : n ≤ 1000000000) (hr : Rd w p (bys l)) (hl : l.length = n) (hy : isByte l) :
    Calls Try.prog 13 #[.slice p n c] w fun e w' => ∃ s q : ByteArray, e = .returned (.tuple #[.string s, .string q]) ∧ s.size ≤ 20 ∧ q.size ≤ 20 ∧ Below w.heap.size w w' := by
  have HC : Hid (Cur (w.alloc (Cv.obj ⟨.slice p n c, 0, 0⟩)) w.heap.size p n c l 0) := Lib.hid (Cur.new rfl hr hl hy)
  have HB : Hid (Below w.heap.size w (w.alloc (Cv.obj ⟨.slice p n c, 0, 0⟩))) := Lib.hid ((Below.refl _ _).alloc (Nat.le_refl _) _)
  clear hr hl hy
  go_enter Try.func13, Try.ntmps13
  go_wp2_with fail
  refine (any1_ w.heap.size p n c l 0 _ (by omega) hm HC.out).mono ?_
  rintro e w1 ⟨x, rfl, hx, C, G⟩
  have HC := Lib.hid C
  have HB := Lib.hid (Below.grown HB.out G HB.out.size (fun k hk => by injection hk with hk; omega))
  have HX := Lib.hid hx
  clear C G hx
  go_wp2_with fail
  refine (any1_ w.heap.size p n c l 2 _ (by omega) hm HC.out).mono ?_
  rintro e w2 ⟨y, rfl, hy, C, G⟩
  have HB := Lib.hid (Below.grown HB.out G HB.out.size (fun k hk => by injection hk with hk; omega))
  have HY := Lib.hid hy
  clear C G hy
  go_wp2_with fail
  go_ret2
  exact ⟨x, y, rfl, HX.out, HY.out, HB.out⟩
theorem v_big (p : Option Addr) (n c : Nat) (w : World) (b : Bool) (h : decide (65536 < (n : Int)) = b) :
    Calls Try.prog 7 #[.slice p n c] w fun e w' => e = .returned (.bool b) ∧ w = w' := by
  go_enter Try.func7, Try.ntmps7
  go_wp2_with fail
  go_ret
  exact ⟨rfl, rfl⟩
end Go.Proofs.Ytcjmlddpjbneiaa.draw
