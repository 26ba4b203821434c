/- Maps: MapBehind, the program's and the model's. -/
import Derived.Test.YtngfdfgeoieebaaMk
import Derived.Test.YtngfdfgeoieebaaMl
namespace Go.Proofs.Ytngfdfgeoieebaa.maps
open Go.RowKit
open cards
set_option linter.unusedVariables false
/-- What MapBehind returns. -/
def mbR (m b : Mp) : Mp × Bool := if m.ok = true ∧ b.ok = true then (bh m b, true) else (zeroM, false)

set_option maxRecDepth 100000 in
set_option maxHeartbeats 4000000 in
theorem impl_mb (m b : Mp) (w : World) :
    Calls Try.prog 31 #[m.val, b.val] w fun e w' => e = .returned (.tuple #[(mbR m b).1.val, .bool (mbR m b).2]) ∧ Below w.heap.size w w' := by
  have HI := Lib.hid (fun w => is_map m w)
  have HJ := Lib.hid (fun w => is_map b w)
  have K0 : Hid (MBox (((w.alloc (Mv.obj ⟨28, m⟩)).alloc (Mv.obj ⟨28, b⟩)).alloc (Mv.obj ⟨28, zeroM⟩)) w.heap.size ⟨28, m⟩) := Lib.hid (((MBox.newAt rfl rfl).alloc _).alloc _)
  have K1 : Hid (MBox (((w.alloc (Mv.obj ⟨28, m⟩)).alloc (Mv.obj ⟨28, b⟩)).alloc (Mv.obj ⟨28, zeroM⟩)) (w.heap.size + 1) ⟨28, b⟩) := Lib.hid ((MBox.newAt (by simp) rfl).alloc _)
  have K2 : Hid (MBox (((w.alloc (Mv.obj ⟨28, m⟩)).alloc (Mv.obj ⟨28, b⟩)).alloc (Mv.obj ⟨28, zeroM⟩)) (w.heap.size + 1 + 1) ⟨28, zeroM⟩) := Lib.hid (MBox.newAt (by simp) rfl)
  have HB : Hid (Below w.heap.size w (((w.alloc (Mv.obj ⟨28, m⟩)).alloc (Mv.obj ⟨28, b⟩)).alloc (Mv.obj ⟨28, zeroM⟩))) := Lib.hid ((((Below.refl _ _).alloc (Nat.le_refl _) _).alloc (by simp) _).alloc (by simp; omega) _)
  go_enter Try.func31, Try.ntmps31
  go_upto_region 1 with fail
  generalize (((w.alloc (Mv.obj ⟨28, m⟩)).alloc (Mv.obj ⟨28, b⟩)).alloc (Mv.obj ⟨28, zeroM⟩)) = W at *
  cases hm : m.ok
  · have HT := Lib.hid (show mbR m b = (zeroM, false) by unfold mbR; rw [if_neg (by simp [hm])])
    rw [hm] at HI
    clear hm
    go_wp2_with (first | ((with_reducible refine take_map rfl _ rfl K0.out ?_ ?_); rfl) | ((with_reducible refine take_map rfl _ rfl K1.out ?_ ?_); rfl))
    refine (HI.out _).mono ?_
    rintro e w1 ⟨rfl, q⟩
    have HB := Lib.hid (chain0 HB.out q)
    have K2 := Lib.hid (MBox.below K2.out q)
    clear q
    go_wp2_with ((with_reducible refine store_map rfl _ _ rfl K2.out ?_ zeroM ?_ ?_); rfl; rfl; intro w6 hM hG)
    try simp only [Exit.inBlock, Exit.then]
    refine bodyPost_ret (res_map2 Try.results31 rfl hM) rfl ?_
    exact ⟨by rw [HT.out]; rfl, HB.out.grown hG HB.out.size (fun k hk => by injection hk with hk; omega)⟩
  · rw [hm] at HI
    cases hc : b.ok
    · have HT := Lib.hid (show mbR m b = (zeroM, false) by unfold mbR; rw [if_neg (by simp [hc])])
      rw [hc] at HJ
      clear hm hc
      go_wp2_with (first | ((with_reducible refine take_map rfl _ rfl K0.out ?_ ?_); rfl) | ((with_reducible refine take_map rfl _ rfl K1.out ?_ ?_); rfl))
      refine (HI.out _).mono ?_
      rintro e w1 ⟨rfl, q⟩
      have HB := Lib.hid (chain0 HB.out q)
      have K1 := Lib.hid (MBox.below K1.out q)
      have K2 := Lib.hid (MBox.below K2.out q)
      clear q
      obtain ⟨k1a, k1b, k1c, k1d, k1e, k1g, k1h, k1i, k1j, k1k, k1l, k1m, k1n, k1o, k1p, k1q⟩ := K1.out.cell
      go_wp2_with fail
      clear k1a k1b k1c k1d k1e k1g k1h k1i k1j k1k k1l k1m k1n k1o k1p k1q
      refine (HJ.out _).mono ?_
      rintro e w2 ⟨rfl, q⟩
      have HB := Lib.hid (chain0 HB.out q)
      have K2 := Lib.hid (MBox.below K2.out q)
      clear q
      go_wp2_with ((with_reducible refine store_map rfl _ _ rfl K2.out ?_ zeroM ?_ ?_); rfl; rfl; intro w6 hM hG)
      try simp only [Exit.inBlock, Exit.then]
      refine bodyPost_ret (res_map2 Try.results31 rfl hM) rfl ?_
      exact ⟨by rw [HT.out]; rfl, HB.out.grown hG HB.out.size (fun k hk => by injection hk with hk; omega)⟩
    · have HT := Lib.hid (show mbR m b = (bh m b, true) by unfold mbR; rw [if_pos ⟨hm, hc⟩])
      have HIm := Lib.hid (fun w => then_run m b w hm hc)
      rw [hc] at HJ
      clear hm hc
      go_wp2_with (first | ((with_reducible refine take_map rfl _ rfl K0.out ?_ ?_); rfl) | ((with_reducible refine take_map rfl _ rfl K1.out ?_ ?_); rfl))
      refine (HI.out _).mono ?_
      rintro e w1 ⟨rfl, q⟩
      have HB := Lib.hid (chain0 HB.out q)
      have K0 := Lib.hid (MBox.below K0.out q)
      have K1 := Lib.hid (MBox.below K1.out q)
      have K2 := Lib.hid (MBox.below K2.out q)
      clear q
      obtain ⟨k1a, k1b, k1c, k1d, k1e, k1g, k1h, k1i, k1j, k1k, k1l, k1m, k1n, k1o, k1p, k1q⟩ := K1.out.cell
      go_wp2_with fail
      clear k1a k1b k1c k1d k1e k1g k1h k1i k1j k1k k1l k1m k1n k1o k1p k1q
      refine (HJ.out _).mono ?_
      rintro e w2 ⟨rfl, q⟩
      have HB := Lib.hid (chain0 HB.out q)
      have K0 := Lib.hid (MBox.below K0.out q)
      have K1 := Lib.hid (MBox.below K1.out q)
      have K2 := Lib.hid (MBox.below K2.out q)
      clear q
      go_wp2_with (first | ((with_reducible refine take_map rfl _ rfl K0.out ?_ ?_); rfl) | ((with_reducible refine take_map rfl _ rfl K1.out ?_ ?_); rfl))
      refine (HIm.out _).mono ?_
      rintro e w3 ⟨rfl, q⟩
      have HB := Lib.hid (chain0 HB.out q)
      have K2 := Lib.hid (MBox.below K2.out q)
      clear q
      go_wp2_with ((with_reducible refine store_map rfl _ _ rfl K2.out ?_ (bh m b) ?_ ?_); rfl; rfl; intro w6 hM hG)
      try simp only [Exit.inBlock, Exit.then]
      refine bodyPost_ret (res_map2 Try.results31 rfl hM) rfl ?_
      exact ⟨by rw [HT.out]; rfl, HB.out.grown hG HB.out.size (fun k hk => by injection hk with hk; omega)⟩

set_option maxRecDepth 100000 in
set_option maxHeartbeats 4000000 in
theorem spec_mb (m b : Mp) (w : World) :
    Calls Try.prog 30 #[m.val, b.val] w fun e w' => e = .returned (.tuple #[(mbR m b).1.val, .bool (mbR m b).2]) ∧ Below w.heap.size w w' := by
  have HI := Lib.hid (fun w => l5_map m w)
  have HJ := Lib.hid (fun w => l5_map b w)
  have K0 : Hid (MBox (((w.alloc (Mv.obj ⟨28, m⟩)).alloc (Mv.obj ⟨28, b⟩)).alloc (Mv.obj ⟨28, zeroM⟩)) w.heap.size ⟨28, m⟩) := Lib.hid (((MBox.newAt rfl rfl).alloc _).alloc _)
  have K1 : Hid (MBox (((w.alloc (Mv.obj ⟨28, m⟩)).alloc (Mv.obj ⟨28, b⟩)).alloc (Mv.obj ⟨28, zeroM⟩)) (w.heap.size + 1) ⟨28, b⟩) := Lib.hid ((MBox.newAt (by simp) rfl).alloc _)
  have K2 : Hid (MBox (((w.alloc (Mv.obj ⟨28, m⟩)).alloc (Mv.obj ⟨28, b⟩)).alloc (Mv.obj ⟨28, zeroM⟩)) (w.heap.size + 1 + 1) ⟨28, zeroM⟩) := Lib.hid (MBox.newAt (by simp) rfl)
  have HB : Hid (Below w.heap.size w (((w.alloc (Mv.obj ⟨28, m⟩)).alloc (Mv.obj ⟨28, b⟩)).alloc (Mv.obj ⟨28, zeroM⟩))) := Lib.hid ((((Below.refl _ _).alloc (Nat.le_refl _) _).alloc (by simp) _).alloc (by simp; omega) _)
  go_enter Try.func30, Try.ntmps30
  go_upto_region 1 with fail
  generalize (((w.alloc (Mv.obj ⟨28, m⟩)).alloc (Mv.obj ⟨28, b⟩)).alloc (Mv.obj ⟨28, zeroM⟩)) = W at *
  cases hm : m.ok
  · have HT := Lib.hid (show mbR m b = (zeroM, false) by unfold mbR; rw [if_neg (by simp [hm])])
    rw [hm] at HI
    clear hm
    go_wp2_with (first | ((with_reducible refine take_map rfl _ rfl K0.out ?_ ?_); rfl) | ((with_reducible refine take_map rfl _ rfl K1.out ?_ ?_); rfl))
    refine (HI.out _).mono ?_
    rintro e w1 ⟨rfl, q⟩
    have HB := Lib.hid (chain0 HB.out q)
    have K2 := Lib.hid (MBox.below K2.out q)
    clear q
    go_wp2_with ((with_reducible refine store_map rfl _ _ rfl K2.out ?_ zeroM ?_ ?_); rfl; rfl; intro w6 hM hG)
    try simp only [Exit.inBlock, Exit.then]
    refine bodyPost_ret (res_map2 Try.results30 rfl hM) rfl ?_
    exact ⟨by rw [HT.out]; rfl, HB.out.grown hG HB.out.size (fun k hk => by injection hk with hk; omega)⟩
  · rw [hm] at HI
    cases hc : b.ok
    · have HT := Lib.hid (show mbR m b = (zeroM, false) by unfold mbR; rw [if_neg (by simp [hc])])
      rw [hc] at HJ
      clear hm hc
      go_wp2_with (first | ((with_reducible refine take_map rfl _ rfl K0.out ?_ ?_); rfl) | ((with_reducible refine take_map rfl _ rfl K1.out ?_ ?_); rfl))
      refine (HI.out _).mono ?_
      rintro e w1 ⟨rfl, q⟩
      have HB := Lib.hid (chain0 HB.out q)
      have K1 := Lib.hid (MBox.below K1.out q)
      have K2 := Lib.hid (MBox.below K2.out q)
      clear q
      obtain ⟨k1a, k1b, k1c, k1d, k1e, k1g, k1h, k1i, k1j, k1k, k1l, k1m, k1n, k1o, k1p, k1q⟩ := K1.out.cell
      go_wp2_with fail
      clear k1a k1b k1c k1d k1e k1g k1h k1i k1j k1k k1l k1m k1n k1o k1p k1q
      refine (HJ.out _).mono ?_
      rintro e w2 ⟨rfl, q⟩
      have HB := Lib.hid (chain0 HB.out q)
      have K2 := Lib.hid (MBox.below K2.out q)
      clear q
      go_wp2_with ((with_reducible refine store_map rfl _ _ rfl K2.out ?_ zeroM ?_ ?_); rfl; rfl; intro w6 hM hG)
      try simp only [Exit.inBlock, Exit.then]
      refine bodyPost_ret (res_map2 Try.results30 rfl hM) rfl ?_
      exact ⟨by rw [HT.out]; rfl, HB.out.grown hG HB.out.size (fun k hk => by injection hk with hk; omega)⟩
    · have HT := Lib.hid (show mbR m b = (bh m b, true) by unfold mbR; rw [if_pos ⟨hm, hc⟩])
      have HIm := Lib.hid (fun w => l5_behind m b w hm hc)
      rw [hc] at HJ
      clear hm hc
      go_wp2_with (first | ((with_reducible refine take_map rfl _ rfl K0.out ?_ ?_); rfl) | ((with_reducible refine take_map rfl _ rfl K1.out ?_ ?_); rfl))
      refine (HI.out _).mono ?_
      rintro e w1 ⟨rfl, q⟩
      have HB := Lib.hid (chain0 HB.out q)
      have K0 := Lib.hid (MBox.below K0.out q)
      have K1 := Lib.hid (MBox.below K1.out q)
      have K2 := Lib.hid (MBox.below K2.out q)
      clear q
      obtain ⟨k1a, k1b, k1c, k1d, k1e, k1g, k1h, k1i, k1j, k1k, k1l, k1m, k1n, k1o, k1p, k1q⟩ := K1.out.cell
      go_wp2_with fail
      clear k1a k1b k1c k1d k1e k1g k1h k1i k1j k1k k1l k1m k1n k1o k1p k1q
      refine (HJ.out _).mono ?_
      rintro e w2 ⟨rfl, q⟩
      have HB := Lib.hid (chain0 HB.out q)
      have K0 := Lib.hid (MBox.below K0.out q)
      have K1 := Lib.hid (MBox.below K1.out q)
      have K2 := Lib.hid (MBox.below K2.out q)
      clear q
      go_wp2_with (first | ((with_reducible refine take_map rfl _ rfl K0.out ?_ ?_); rfl) | ((with_reducible refine take_map rfl _ rfl K1.out ?_ ?_); rfl))
      refine (HIm.out _).mono ?_
      rintro e w3 ⟨rfl, q⟩
      have HB := Lib.hid (chain0 HB.out q)
      have K2 := Lib.hid (MBox.below K2.out q)
      clear q
      go_wp2_with ((with_reducible refine store_map rfl _ _ rfl K2.out ?_ (bh m b) ?_ ?_); rfl; rfl; intro w6 hM hG)
      try simp only [Exit.inBlock, Exit.then]
      refine bodyPost_ret (res_map2 Try.results30 rfl hM) rfl ?_
      exact ⟨by rw [HT.out]; rfl, HB.out.grown hG HB.out.size (fun k hk => by injection hk with hk; omega)⟩
end Go.Proofs.Ytngfdfgeoieebaa.maps
