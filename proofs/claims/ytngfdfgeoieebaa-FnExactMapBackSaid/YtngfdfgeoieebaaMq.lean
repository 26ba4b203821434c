/- Maps: MapBack, the program's and the model's. -/
import Derived.Test.YtngfdfgeoieebaaMn
namespace Go.Proofs.Ytngfdfgeoieebaa.maps
open Go.RowKit
open cards
set_option linter.unusedVariables false

set_option maxRecDepth 100000 in
set_option maxHeartbeats 4000000 in
theorem spec_bk (m : Mp) (w : World) :
    Calls Try.prog 33 #[m.val] w fun e w' => e = .returned (.tuple #[(bkR m).1.val, .bool (bkR m).2]) ∧ Below w.heap.size w w' := by
  have HI := Lib.hid (fun w => l5_map m w)
  have K0 : Hid (MBox ((w.alloc (Mv.obj ⟨28, m⟩)).alloc (Mv.obj ⟨28, zeroM⟩)) w.heap.size ⟨28, m⟩) := Lib.hid ((MBox.newAt rfl rfl).alloc _)
  have K1 : Hid (MBox ((w.alloc (Mv.obj ⟨28, m⟩)).alloc (Mv.obj ⟨28, zeroM⟩)) (w.heap.size + 1) ⟨28, zeroM⟩) := Lib.hid (MBox.newAt (by simp) rfl)
  have HB : Hid (Below w.heap.size w ((w.alloc (Mv.obj ⟨28, m⟩)).alloc (Mv.obj ⟨28, zeroM⟩))) := Lib.hid (((Below.refl _ _).alloc (Nat.le_refl _) _).alloc (by simp) _)
  go_enter Try.func33, Try.ntmps33
  go_upto_region 1 with fail
  generalize ((w.alloc (Mv.obj ⟨28, m⟩)).alloc (Mv.obj ⟨28, zeroM⟩)) = W at *
  cases hm : m.ok
  · have HT := Lib.hid (show bkR m = (zeroM, false) by unfold bkR; rw [if_neg (by simp [hm])])
    rw [hm] at HI
    clear hm
    go_wp2_with ((with_reducible refine take_map rfl _ rfl K0.out ?_ ?_); rfl)
    refine (HI.out _).mono ?_
    rintro e w1 ⟨rfl, q⟩
    have HB := Lib.hid (chain0 HB.out q)
    have K1 := Lib.hid (MBox.below K1.out q)
    clear q
    go_wp2_with ((with_reducible refine store_map rfl _ _ rfl K1.out ?_ zeroM ?_ ?_); rfl; rfl; intro w6 hM hG)
    try simp only [Exit.inBlock, Exit.then]
    refine bodyPost_ret (res_map2 Try.results33 rfl hM) rfl ?_
    exact ⟨by rw [HT.out]; rfl, HB.out.grown hG HB.out.size (fun k hk => by injection hk with hk; omega)⟩
  · have HT := Lib.hid (show bkR m = (bkTo m 4, true) by unfold bkR; rw [if_pos hm])
    have HP := Lib.hid (Mp.ok_iff.1 hm).2.2.2.2
    have HM := Lib.hid hm
    rw [hm] at HI
    clear hm
    go_wp2_with ((with_reducible refine take_map rfl _ rfl K0.out ?_ ?_); rfl)
    refine (HI.out _).mono ?_
    rintro e w1 ⟨rfl, q⟩
    have HB := Lib.hid (chain0 HB.out q)
    have K0 := Lib.hid (MBox.below K0.out q)
    have K1 := Lib.hid (MBox.below K1.out q)
    clear q
    have k1z := K1.out.lt
    have hz := HB.out.size
    have W0 : Hid (MBox (w1.alloc (Mv.obj ⟨28, zeroM⟩)) w.heap.size ⟨28, m⟩) := Lib.hid (K0.out.alloc _)
    have W1 : Hid (MBox (w1.alloc (Mv.obj ⟨28, zeroM⟩)) (w.heap.size + 1) ⟨28, zeroM⟩) := Lib.hid (K1.out.alloc _)
    have W2 : Hid (MBox (w1.alloc (Mv.obj ⟨28, zeroM⟩)) w1.heap.size ⟨28, zeroM⟩) := Lib.hid (MBox.newAt rfl rfl)
    have WB : Hid (Below w.heap.size w (w1.alloc (Mv.obj ⟨28, zeroM⟩))) := Lib.hid (HB.out.alloc hz _)
    obtain ⟨g, hg⟩ : ∃ g, w1.heap.size = g := ⟨_, rfl⟩
    rw [hg] at W2 k1z hz
    have HG := Lib.hid hg
    clear hg
    go_wp2_with fail
    rw [HG.out]
    go_loopw [5] (fun i wr => ∃ k : Nat, k ≤ 4 ∧ i = .int .i64 k ∧ Hid (Below w.heap.size w wr) ∧ Hid (MBox wr w.heap.size ⟨28, m⟩) ∧ Hid (MBox wr (w.heap.size + 1) ⟨28, zeroM⟩) ∧ Hid (MBox wr g ⟨28, bkTo m k⟩)) (fun i _ => 4 - (intOf i).toNat)
    case atStart => exact ⟨0, Nat.zero_le _, rfl, WB, W0, W1, W2⟩
    case round =>
      clear W0 W1 W2 WB K0 K1 HB
      obtain ⟨k, hk, rfl, HB, K0, K1, K2⟩ := hrel
      have k0z := K0.out.lt
      have k2z := K2.out.lt
      have k2f := K2.out.frozen
      by_cases hlt : k < 4
      · obtain ⟨f, hf, e1, e2⟩ := get4_nat HP.out k
        have HS0 := Lib.hid (show bkTo m (k + 1) = bkRow m k f (pT (bkTo m k) f k) 3 by show bkRow m k (get4 m.t k).toNat (pT (bkTo m k) (get4 m.t k).toNat k) 3 = _; rw [e2])
        have i0 := MBox.atT' K0.out hlt
        dsimp only at i0
        rw [e1] at i0
        have E1 := Lib.hid e1
        clear e1
        have a1 := MBox.atT' K2.out hf
        clear e2
        have m0 : (0 : Int) ≤ (k : Int) := by omega
        have m1 : (k : Int) < 4 := by omega
        have m2 : (0 : Int) ≤ (f : Int) := by omega
        have m3 : (f : Int) < 4 := by omega
        skip
        go_upto_region 8 with fail
        have HB : Hid (Below w.heap.size w (wr.setCell ⟨g, f, none⟩ (.int .i64 k))) := Lib.hid (HB.out.setCell (by simp only; omega) _)
        have K0 := Lib.hid (MBox.far K0.out (p := ⟨g, f, none⟩) (by simp only; omega) (.int .i64 k))
        have K1 := Lib.hid (MBox.far K1.out (p := ⟨g, f, none⟩) (by simp only; omega) (.int .i64 k))
        have K2 := Lib.hid (MBox.putT K2.out hf k)
        generalize wr.setCell ⟨g, f, none⟩ (.int .i64 k) = w3 at *
        clear a1 i0 k0z k2z k2f
        go_wp2_with fail
        go_loopw [6] (fun i wr => ∃ v : Nat, v ≤ 3 ∧ i = .int .i64 v ∧ Hid (Below w.heap.size w wr) ∧ Hid (MBox wr w.heap.size ⟨28, m⟩) ∧ Hid (MBox wr (w.heap.size + 1) ⟨28, zeroM⟩) ∧ Hid (MBox wr g ⟨28, bkRow m k f (pT (bkTo m k) f k) v⟩)) (fun i _ => 3 - (intOf i).toNat)
        case atStart => exact ⟨0, Nat.zero_le _, rfl, HB, K0, K1, K2⟩
        case round =>
          clear HB K0 K1 K2
          obtain ⟨v, hv, rfl, HB, K0, K1, K2⟩ := hrel
          have k0z := K0.out.lt
          have k2z := K2.out.lt
          have k2f := K2.out.frozen
          by_cases hlv : v < 3
          · obtain ⟨x, hx, e1, e2⟩ := get3_nat (getV_pm HM.out k) v
            have HR := Lib.hid (show bkRow m k f (pT (bkTo m k) f k) (v + 1) = pV (bkRow m k f (pT (bkTo m k) f k) v) f x v by show pV _ f (get3 (getV m k) v).toNat v = _; rw [e2])
            have i0 := MBox.atV' K0.out hlt hlv
            dsimp only at i0
            rw [e1] at i0
            clear e1
            have i1 := MBox.atT' K0.out hlt
            dsimp only at i1
            rw [E1.out] at i1
            clear e2
            have a1 := MBox.atV' K2.out hf hx
            have n0 : (0 : Int) ≤ (v : Int) := by omega
            have n1 : (v : Int) < 3 := by omega
            have n2 : (0 : Int) ≤ (x : Int) := by omega
            have n3 : (x : Int) < 3 := by omega
            go_wp2_with fail
            go_region
            go_wp2_with fail
            go_roundw
            case rel => exact ⟨v + 1, by omega, by go_num, Lib.hid ((bdN HB.out _).setCell (by simp only; omega) _), Lib.hid (MBox.far (MBox.drewN K0.out _) (by simp only; omega) _), Lib.hid (MBox.far (MBox.drewN K1.out _) (by simp only; omega) _), by rw [HR.out]; exact Lib.hid (MBox.putV (MBox.drewN K2.out _) hf hx _)⟩
            case measure => simp [intOf]; omega
          · obtain rfl : v = 3 := by omega
            rw [← HS0.out] at K2
            go_wp2_with fail
            go_roundw
            case rel => exact ⟨k + 1, by omega, by go_num, HB, K0, K1, K2⟩
            case measure => simp [intOf]; omega
      · obtain rfl : k = 4 := by omega
        go_wp2_with (first | ((with_reducible refine take_map rfl _ rfl K2.out ?_ ?_); rfl) | ((with_reducible refine store_map rfl _ _ rfl K1.out ?_ (bkTo m 4) ?_ ?_); rfl; rfl; intro w6 hM hG))
        try simp only [Exit.inBlock, Exit.then]
        refine bodyPost_ret (res_map2 Try.results33 rfl hM) rfl ?_
        exact ⟨by rw [HT.out]; rfl, HB.out.grown hG HB.out.size (fun k hk => by injection hk with hk; omega)⟩
end Go.Proofs.Ytngfdfgeoieebaa.maps
