/- Maps: ShiftTo, the program. -/
import Derived.Test.YtfbcjcfhdclklaaMn
import Derived.IntWalk
namespace Go.Proofs.Ytfbcjcfhdclklaa.maps
open Go.RowKit
open cards
set_option linter.unusedVariables false
theorem sh_sum1 (v x y : Int) (hv : 0 ≤ v ∧ v ≤ 2) (hx : 0 ≤ x ∧ x ≤ 2) (hy : 0 ≤ y ∧ y ≤ 2) : (v + y - x + 3).tmod 3 = (v + 3 + y - x) % 3 := by
  rw [Int.tmod_eq_emod_of_nonneg (by omega)] <;> omega

set_option maxRecDepth 100000 in
set_option maxHeartbeats 4000000 in
theorem impl_sh (a b : Cd) (w : World) :
    Calls Try.prog 78 #[a.val, b.val] w fun e w' => e = .returned (.tuple #[(shR a b).1.val, .bool (shR a b).2]) ∧ Below w.heap.size w w' := by
  have K0 : Hid (Box (((w.alloc a.obj).alloc b.obj).alloc (Mv.obj ⟨86, zeroM⟩)) w.heap.size a) := Lib.hid (((Box.newAt rfl rfl).alloc _).alloc _)
  have K1 : Hid (Box (((w.alloc a.obj).alloc b.obj).alloc (Mv.obj ⟨86, zeroM⟩)) (w.heap.size + 1) b) := Lib.hid ((Box.newAt (by simp) rfl).alloc _)
  have K2 : Hid (MBox (((w.alloc a.obj).alloc b.obj).alloc (Mv.obj ⟨86, zeroM⟩)) (w.heap.size + 1 + 1) ⟨86, zeroM⟩) := Lib.hid (MBox.newAt (by simp) rfl)
  have HB : Hid (Below w.heap.size w (((w.alloc a.obj).alloc b.obj).alloc (Mv.obj ⟨86, zeroM⟩))) := Lib.hid ((((Below.refl _ _).alloc (Nat.le_refl _) _).alloc (by simp) _).alloc (by simp; omega) _)
  go_enter Try.func78, Try.ntmps78
  go_upto_region 1 with fail
  generalize (((w.alloc a.obj).alloc b.obj).alloc (Mv.obj ⟨86, zeroM⟩)) = W at *
  obtain ⟨k0a, k0b, k0c, k0d⟩ := K0.out.cell
  obtain ⟨k1a, k1b, k1c, k1d⟩ := K1.out.cell
  have hz0 := HB.out.size
  go_wp2_with fail
  refine (are_cards [a, b] _ 2 2 _ rfl (by omega) (Rd.newAt rfl rfl)).mono ?_
  rintro e w1 ⟨rfl, q⟩
  have HB := Lib.hid (chain0 (HB.out.alloc hz0 _) q)
  have K0 := Lib.hid (Box.below (K0.out.alloc _) q)
  have K1 := Lib.hid (Box.below (K1.out.alloc _) q)
  have K2 := Lib.hid (MBox.below (K2.out.alloc _) q)
  clear q k0a k0b k0c k0d k1a k1b k1c k1d hz0
  cases hok : a.ok && b.ok
  · have ha : ([a, b] : List Cd).all Cd.ok = false := by simpa using hok
    have HT := Lib.hid (show shR a b = (zeroM, false) by unfold shR; rw [if_neg (by simpa using hok)])
    clear hok
    go_wp2_with ((with_reducible refine store_map rfl _ _ rfl K2.out ?_ zeroM ?_ ?_); rfl; rfl; intro w6 hM hG)
    try simp only [Exit.inBlock, Exit.then]
    refine bodyPost_ret (res_map2 Try.results78 rfl hM) rfl ?_
    exact ⟨by rw [HT.out]; rfl, HB.out.grown hG HB.out.size (fun k hk => by injection hk with hk; omega)⟩
  · have ha : ([a, b] : List Cd).all Cd.ok = true := by simpa using hok
    obtain ⟨hx, hy⟩ : a.ok = true ∧ b.ok = true := by simpa using hok
    have HT := Lib.hid (show shR a b = (shTo a b 4, true) by unfold shR; rw [if_pos ⟨hx, hy⟩])
    have HX := Lib.hid hx
    have HY := Lib.hid hy
    clear hx hy hok
    have k2z := K2.out.lt
    have hz := HB.out.size
    have W0 : Hid (Box (w1.alloc (Mv.obj ⟨86, zeroM⟩)) w.heap.size a) := Lib.hid (K0.out.alloc _)
    have W1 : Hid (Box (w1.alloc (Mv.obj ⟨86, zeroM⟩)) (w.heap.size + 1) b) := Lib.hid (K1.out.alloc _)
    have W2 : Hid (MBox (w1.alloc (Mv.obj ⟨86, zeroM⟩)) (w.heap.size + 1 + 1) ⟨86, zeroM⟩) := Lib.hid (K2.out.alloc _)
    have W3 : Hid (MBox (w1.alloc (Mv.obj ⟨86, zeroM⟩)) w1.heap.size ⟨86, zeroM⟩) := Lib.hid (MBox.newAt rfl rfl)
    have WB : Hid (Below w.heap.size w (w1.alloc (Mv.obj ⟨86, zeroM⟩))) := Lib.hid (HB.out.alloc hz _)
    obtain ⟨g, hg⟩ : ∃ g, w1.heap.size = g := ⟨_, rfl⟩
    rw [hg] at W3 k2z hz
    have HG := Lib.hid hg
    clear hg
    go_wp2_with fail
    rw [HG.out]
    go_loopw [16] (fun i wr => ∃ k : Nat, k ≤ 4 ∧ i = .int .i64 k ∧ Hid (Below w.heap.size w wr) ∧ Hid (Box wr w.heap.size a) ∧ Hid (Box wr (w.heap.size + 1) b) ∧ Hid (MBox wr (w.heap.size + 1 + 1) ⟨86, zeroM⟩) ∧ Hid (MBox wr g ⟨86, shTo a b k⟩)) (fun i _ => 4 - (intOf i).toNat)
    case atStart => exact ⟨0, Nat.zero_le _, rfl, WB, W0, W1, W2, W3⟩
    case round =>
      clear W0 W1 W2 W3 WB K0 K1 K2 HB
      obtain ⟨k, hk, rfl, HB, K0, K1, K2, K3⟩ := hrel
      have k0z := K0.out.lt
      have k3z := K3.out.lt
      have k3f := K3.out.frozen
      by_cases hlt : k < 4
      · have m0 : (0 : Int) ≤ (k : Int) := by omega
        have m1 : (k : Int) < 4 := by omega
        have a0 := MBox.atT' K3.out hlt
        go_upto_region 8 with fail
        have HB : Hid (Below w.heap.size w (wr.setCell ⟨g, k, none⟩ (.int .i64 k))) := Lib.hid (HB.out.setCell (by simp only; omega) _)
        have K0 := Lib.hid (Box.far K0.out (p := ⟨g, k, none⟩) (by simp only; omega) (.int .i64 k))
        have K1 := Lib.hid (Box.far K1.out (p := ⟨g, k, none⟩) (by simp only; omega) (.int .i64 k))
        have K2 := Lib.hid (MBox.far K2.out (p := ⟨g, k, none⟩) (by simp only; omega) (.int .i64 k))
        have K3 := Lib.hid (MBox.putT K3.out hlt k)
        generalize wr.setCell ⟨g, k, none⟩ (.int .i64 k) = w3 at *
        clear a0 k0z k3z k3f
        go_wp2_with fail
        go_loopw [23] (fun i wr => ∃ v : Nat, v ≤ 3 ∧ i = .int .i64 v ∧ Hid (Below w.heap.size w wr) ∧ Hid (Box wr w.heap.size a) ∧ Hid (Box wr (w.heap.size + 1) b) ∧ Hid (MBox wr (w.heap.size + 1 + 1) ⟨86, zeroM⟩) ∧ Hid (MBox wr g ⟨86, shRow a b k (pT (shTo a b k) k k) v⟩)) (fun i _ => 3 - (intOf i).toNat)
        case atStart => exact ⟨0, Nat.zero_le _, rfl, HB, K0, K1, K2, K3⟩
        case round =>
          clear HB K0 K1 K2 K3
          obtain ⟨v, hv, rfl, HB, K0, K1, K2, K3⟩ := hrel
          have k0z := K0.out.lt
          have k3z := K3.out.lt
          have k3f := K3.out.frozen
          by_cases hlv : v < 3
          · have i0 := Box.atI' K0.out hlt
            have i1 := Box.atI' K1.out hlt
            have a1 := MBox.atV' K3.out hlt hlv
            have bx := get4_ok HX.out (i := k)
            have bY := get4_ok HY.out (i := k)
            have HR := Lib.hid (show shRow a b k (pT (shTo a b k) k k) (v + 1) = pV (shRow a b k (pT (shTo a b k) k k) v) k v (((v : Int) + 3 + get4 b k - get4 a k) % 3) from rfl)
            generalize get4 a k = x at i0 bx HR
            generalize get4 b k = y at i1 bY HR
            have n0 : (0 : Int) ≤ (v : Int) := by omega
            have n1 : (v : Int) < 3 := by omega
            have e5 := sh_sum1 v x y (by omega) bx bY
            generalize ((v : Int) + 3 + y - x) % 3 = s at e5 HR
            have e1 : IntKind.i64.wrap ((v : Int) + y) = v + y := IntWalk.i64_in _ (by omega)
            have e2 : IntKind.i64.wrap ((v : Int) + y - x) = v + y - x := IntWalk.i64_in _ (by omega)
            have e3 : IntKind.i64.wrap ((v : Int) + y - x + 3) = v + y - x + 3 := IntWalk.i64_in _ (by omega)
            clear bx bY
            go_wp2_with fail
            go_region
            clear e1 e2 e3 e5
            go_wp2_with fail
            go_roundw
            case rel => exact ⟨v + 1, by omega, by go_num, Lib.hid ((bdN HB.out _).setCell (by simp only; omega) _), Lib.hid (Box.far (Box.drewN K0.out _) (by simp only; omega) _), Lib.hid (Box.far (Box.drewN K1.out _) (by simp only; omega) _), Lib.hid (MBox.far (MBox.drewN K2.out _) (by simp only; omega) _), by rw [HR.out]; exact Lib.hid (MBox.putV (MBox.drewN K3.out _) hlt hlv _)⟩
            case measure => simp [intOf]; omega
          · obtain rfl : v = 3 := by omega
            go_wp2_with fail
            go_roundw
            case rel => exact ⟨k + 1, by omega, by go_num, HB, K0, K1, K2, K3⟩
            case measure => simp [intOf]; omega
      · obtain rfl : k = 4 := by omega
        go_wp2_with (first | ((with_reducible refine take_map rfl _ rfl K3.out ?_ ?_); rfl) | ((with_reducible refine store_map rfl _ _ rfl K2.out ?_ (shTo a b 4) ?_ ?_); rfl; rfl; intro w6 hM hG))
        try simp only [Exit.inBlock, Exit.then]
        refine bodyPost_ret (res_map2 Try.results78 rfl hM) rfl ?_
        exact ⟨by rw [HT.out]; rfl, HB.out.grown hG HB.out.size (fun k hk => by injection hk with hk; omega)⟩
end Go.Proofs.Ytfbcjcfhdclklaa.maps
