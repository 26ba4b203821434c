/- MagicSquare: the program's. -/
import Derived.Test.YtdhcdogmbclhaaaYe
namespace Go.Proofs.Ytdhcdogmbclhaaa.planes
open Go.RowKit
open cards reg
set_option linter.unusedVariables false

def msR (a b c : Cd) : Array Value × Bool := if triB a b c = true then (av (sq a b c), true) else (z36, false)
theorem msR_size (a b c : Cd) : (msR a b c).1.size = 36 := by
  unfold msR
  split
  · exact av_sq_size a b c
  · exact z36_size
theorem msR_one (a b c : Cd) : (msR a b c).1.all (·.oneCell') = true := by
  unfold msR
  split
  · exact av_one _
  · exact z36_one

set_option maxRecDepth 100000 in
set_option maxHeartbeats 8000000 in
theorem impl_ms (a b c : Cd) (w : World) :
    Calls Try.prog 30 #[a.val, b.val, c.val] w fun e w' => e = .returned (.tuple #[.agg (msR a b c).1, .bool (msR a b c).2]) ∧ Below w.heap.size w w' := by
  have HI := Lib.hid (fun w => is_tri a b c w)
  have K0 : Hid (Box ((((w.alloc a.obj).alloc b.obj).alloc c.obj).alloc (.cells z36 37)) (w.heap.size) a) := Lib.hid ((((Box.newAt rfl rfl).alloc _).alloc _).alloc _)
  have K1 : Hid (Box ((((w.alloc a.obj).alloc b.obj).alloc c.obj).alloc (.cells z36 37)) (w.heap.size + 1) b) := Lib.hid (((Box.newAt (by simp) rfl).alloc _).alloc _)
  have K2 : Hid (Box ((((w.alloc a.obj).alloc b.obj).alloc c.obj).alloc (.cells z36 37)) (w.heap.size + 1 + 1) c) := Lib.hid ((Box.newAt (by simp) rfl).alloc _)
  have K6 : Hid (VB ((((w.alloc a.obj).alloc b.obj).alloc c.obj).alloc (.cells z36 37)) (w.heap.size + 1 + 1 + 1) 37 z36) := Lib.hid (VB.newAt (by simp) rfl)
  have HB : Hid (Below w.heap.size w ((((w.alloc a.obj).alloc b.obj).alloc c.obj).alloc (.cells z36 37))) := Lib.hid (((((Below.refl _ _).alloc (Nat.le_refl _) _).alloc (by simp) _).alloc (by simp; omega) _).alloc (by simp; omega) _)
  have HZ := Lib.hid z36_size
  have HZ1 := Lib.hid z36_one
  go_enter Try.func30, Try.ntmps30
  go_upto_region 1 with fail
  obtain ⟨g6, hg6⟩ : ∃ g, w.heap.size + 1 + 1 + 1 = g := ⟨_, rfl⟩
  have HG := Lib.hid (show w.heap.size ≤ g6 by omega)
  rw [hg6] at K6
  try rw [hg6]
  clear hg6
  generalize (((w.alloc a.obj).alloc b.obj).alloc c.obj).alloc (.cells z36 37) = W at *
  obtain ⟨k0a, k0b, k0c, k0d⟩ := K0.out.cell
  obtain ⟨k1a, k1b, k1c, k1d⟩ := K1.out.cell
  obtain ⟨k2a, k2b, k2c, k2d⟩ := K2.out.cell
  cases hh : triB a b c
  · have HT := Lib.hid (show msR a b c = (z36, false) by unfold msR; rw [if_neg (by simp [hh])])
    rw [hh] at HI
    clear hh
    go_wp2_with fail
    refine (HI.out _).mono ?_
    rintro e w1 ⟨rfl, q⟩
    have HB := Lib.hid (chain0 HB.out q)
    have K6 := Lib.hid (K6.out.below q)
    clear q k0a k0b k0c k0d k1a k1b k1c k1d k2a k2b k2c k2d K0 K1 K2
    go_wp2_with ((with_reducible refine store_s9 rfl _ _ rfl K6.out HZ.out ?_ z36 HZ.out HZ1.out ?_ ?_); rfl; rfl; intro w5 hM hG)
    try simp only [Exit.inBlock, Exit.then]
    refine bodyPost_ret (res_vb2 Try.results30 rfl hM Try.underlying37 z36_info) rfl ?_
    exact ⟨by rw [HT.out]; rfl, HB.out.grown hG HB.out.size (fun k hk => by injection hk with hk; have := HG.out; omega)⟩
  · have HT := Lib.hid (show msR a b c = (av (sq a b c), true) by unfold msR; rw [if_pos hh])
    have HQ := Lib.hid (fun w => square_of a b c w (triB_ok hh).1 (triB_ok hh).2.1 (triB_ok hh).2.2)
    have HS0 := Lib.hid (av_sq_size a b c)
    have HS1 := Lib.hid (av_one (sq a b c))
    rw [hh] at HI
    clear hh
    go_wp2_with fail
    refine (HI.out _).mono ?_
    rintro e w1 ⟨rfl, q⟩
    have HB := Lib.hid (chain0 HB.out q)
    have K0 := Lib.hid (K0.out.below q)
    have K1 := Lib.hid (K1.out.below q)
    have K2 := Lib.hid (K2.out.below q)
    have K6 := Lib.hid (K6.out.below q)
    clear q k0a k0b k0c k0d k1a k1b k1c k1d k2a k2b k2c k2d
    obtain ⟨k0a, k0b, k0c, k0d⟩ := K0.out.cell
    obtain ⟨k1a, k1b, k1c, k1d⟩ := K1.out.cell
    obtain ⟨k2a, k2b, k2c, k2d⟩ := K2.out.cell
    go_wp2_with fail
    refine (HQ.out _).mono ?_
    rintro e w2 ⟨rfl, q⟩
    have HB := Lib.hid (chain0 HB.out q)
    have K6 := Lib.hid (K6.out.below q)
    clear q k0a k0b k0c k0d k1a k1b k1c k1d k2a k2b k2c k2d K0 K1 K2
    go_wp2_with ((with_reducible refine store_s9 rfl _ _ rfl K6.out HZ.out ?_ (av (sq a b c)) HS0.out HS1.out ?_ ?_); rfl; rfl; intro w5 hM hG)
    try simp only [Exit.inBlock, Exit.then]
    refine bodyPost_ret (res_vb2 Try.results30 rfl hM Try.underlying37 (av_info9 (sq_len a b c))) rfl ?_
    exact ⟨by rw [HT.out]; rfl, HB.out.grown hG HB.out.size (fun k hk => by injection hk with hk; have := HG.out; omega)⟩
end Go.Proofs.Ytdhcdogmbclhaaa.planes
