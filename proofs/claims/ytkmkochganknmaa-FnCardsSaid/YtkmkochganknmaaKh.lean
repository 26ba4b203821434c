/- Draws: a number. -/
import Derived.Test.YtkmkochganknmaaKe
namespace Go.Proofs.Ytkmkochganknmaa.draw
open Go.RowKit
open cards
set_option linter.unusedVariables false

set_option maxRecDepth 100000 in
set_option maxHeartbeats 4000000 in
theorem draw_at (p : Option Addr) (n c : Nat) (l : List Int) (w : World) (hm : n ≤ 1000000000) (hr : Rd w p (bys l)) (hl : l.length = n) (hy : isByte l) :
    Calls Try.prog 18 #[.slice p n c] w fun e w' => ∃ x : Int, e = .returned (.int .i64 x) ∧ -80 ≤ x ∧ x ≤ 160 ∧ Below w.heap.size w w' := by
  have HC : Hid (Cur (w.alloc (Cv.obj ⟨.slice p n c, 0, 0⟩)) w.heap.size p n c l 0) := Lib.hid (Cur.new rfl hr hl hy)
  have HB : Hid (Below w.heap.size w (w.alloc (Cv.obj ⟨.slice p n c, 0, 0⟩))) := Lib.hid ((Below.refl _ _).alloc (Nat.le_refl _) _)
  clear hr hl hy
  go_enter Try.func18, Try.ntmps18
  go_wp2_with fail
  generalize w.alloc (Cv.obj ⟨.slice p n c, 0, 0⟩) = W at *
  refine (pick_ 81 w.heap.size p n c l 0 _ (by omega) hm (by omega) (by omega) HC.out).mono ?_
  rintro e w1 ⟨b, rfl, b0, b1, C, G⟩
  have HB := Lib.hid (Below.grown HB.out G HB.out.size (fun k hk => by injection hk with hk; omega))
  have HL := Lib.hid C.lt
  have HC := Lib.hid (C.alloc (.cells #[.int .i64 0, .int .i64 0, .int .i64 0, .int .i64 0, .int .i64 80, .int .i64 (-80)] 3))
  have HR := Lib.hid (Rd.newAt (w := w1) (t := 3) (g := w1.heap.size) rfl (show (#[.int .i64 0, .int .i64 0, .int .i64 0, .int .i64 0, .int .i64 80, .int .i64 (-80)] : Array Value).toList = nums [0, 0, 0, 0, 80, -80] from rfl))
  have HB := Lib.hid (Below.alloc HB.out HB.out.size (.cells #[.int .i64 0, .int .i64 0, .int .i64 0, .int .i64 0, .int .i64 80, .int .i64 (-80)] 3))
  clear C G
  go_wp2_with fail
  refine (among_ [0, 0, 0, 0, 80, -80] w.heap.size w1.heap.size 6 6 p n c l 2 _ (by omega) hm (by omega) (by omega) rfl HR.out (Nat.ne_of_gt HL.out) HC.out).mono ?_
  rintro e w2 ⟨a, rfl, ha, C, G⟩
  have HB := Lib.hid (Below.grown HB.out G HB.out.size (fun k hk => by injection hk with hk; omega))
  have ha2 : a = 0 ∨ a = 80 ∨ a = -80 := by simp at ha; omega
  clear C G ha
  have m1 : IntKind.i64.wrap (b + a) = b + a := IntWalk.i64_in _ (by omega)
  go_wp2_with fail
  go_ret
  exact ⟨b + a, rfl, by omega, by omega, HB.out⟩
end Go.Proofs.Ytkmkochganknmaa.draw
