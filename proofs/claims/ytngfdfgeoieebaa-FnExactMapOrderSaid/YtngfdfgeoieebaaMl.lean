/- Maps: one Map behind another one: the model's. -/
import Derived.Test.YtngfdfgeoieebaaMj
namespace Go.Proofs.Ytngfdfgeoieebaa.maps
open Go.RowKit
open cards
set_option linter.unusedVariables false

set_option maxRecDepth 100000 in
set_option maxHeartbeats 4000000 in
theorem l5_behind (m b : Mp) (w : World) (hm : m.ok = true) (hb : b.ok = true) :
    Calls Try.prog 66 #[m.val, b.val] w fun e w' => e = .returned (bh m b).val ∧ Below w.heap.size w w' := by
  have HT := Lib.hid (Mp.ok_iff.1 hb).2.2.2.2
  have HM := Lib.hid hm
  have HE := Lib.hid (bhTo_all (a := m) HT.out)
  have W0 : Hid (MBox ((((w.alloc (Mv.obj ⟨28, m⟩)).alloc (Mv.obj ⟨28, b⟩)).alloc (Mv.obj ⟨28, zeroM⟩)).alloc (Mv.obj ⟨28, zeroM⟩)) w.heap.size ⟨28, m⟩) := Lib.hid ((((MBox.newAt rfl rfl).alloc _).alloc _).alloc _)
  have W1 : Hid (MBox ((((w.alloc (Mv.obj ⟨28, m⟩)).alloc (Mv.obj ⟨28, b⟩)).alloc (Mv.obj ⟨28, zeroM⟩)).alloc (Mv.obj ⟨28, zeroM⟩)) (w.heap.size + 1) ⟨28, b⟩) := Lib.hid (((MBox.newAt (by simp) rfl).alloc _).alloc _)
  have W2 : Hid (MBox ((((w.alloc (Mv.obj ⟨28, m⟩)).alloc (Mv.obj ⟨28, b⟩)).alloc (Mv.obj ⟨28, zeroM⟩)).alloc (Mv.obj ⟨28, zeroM⟩)) (w.heap.size + 1 + 1) ⟨28, zeroM⟩) := Lib.hid ((MBox.newAt (by simp) rfl).alloc _)
  have W3 : Hid (MBox ((((w.alloc (Mv.obj ⟨28, m⟩)).alloc (Mv.obj ⟨28, b⟩)).alloc (Mv.obj ⟨28, zeroM⟩)).alloc (Mv.obj ⟨28, zeroM⟩)) (w.heap.size + 1 + 1 + 1) ⟨28, zeroM⟩) := Lib.hid (MBox.newAt (by simp) rfl)
  clear hm hb
  go_enter Try.func66, Try.ntmps66
  go_wp2_with fail
  go_loopw [6] (fun i wr => ∃ k : Nat, k ≤ 4 ∧ i = .int .i64 k ∧ Hid (Below w.heap.size w wr) ∧ Hid (MBox wr w.heap.size ⟨28, m⟩) ∧ Hid (MBox wr (w.heap.size + 1) ⟨28, b⟩) ∧ Hid (MBox wr (w.heap.size + 1 + 1) ⟨28, zeroM⟩) ∧ Hid (MBox wr (w.heap.size + 1 + 1 + 1) ⟨28, bhTo m b k⟩)) (fun i _ => 4 - (intOf i).toNat)
  case atStart => exact ⟨0, Nat.zero_le _, rfl, Lib.hid (by repeat (first | with_reducible exact Below.refl _ _ | with_reducible exact HB.out | with_reducible apply Below.drew | with_reducible apply bdN | with_reducible refine Below.alloc ?_ (by first | exact Nat.le_refl _ | with_reducible exact HB.out.size | omega | (simp; done) | (simp; omega) | (have := HB.out.size; simp at *; omega)) _ | with_reducible refine Below.setCell ?_ (by first | exact Nat.le_refl _ | with_reducible exact HB.out.size | omega | (simp; done) | (simp; omega) | (have := HB.out.size; simp at *; omega)) _)), W0, W1, W2, W3⟩
  case round =>
    clear W0 W1 W2 W3
    obtain ⟨k, hk, rfl, HB, K0, K1, K2, K3⟩ := hrel
    have k0z := K0.out.lt
    have k1z := K1.out.lt
    have k3z := K3.out.lt
    have k3f := K3.out.frozen
    by_cases hlt : k < 4
    · obtain ⟨f, hf, e1, e2⟩ := get4_nat HT.out k
      have i0 := MBox.atT' K1.out hlt
      dsimp only at i0
      rw [e1] at i0
      have a0 := MBox.atT' K0.out hf
      have a1 := MBox.atT' K3.out hlt
      have HS0 := Lib.hid (show bhTo m b (k + 1) = bhRow m b k f (pT (bhTo m b k) k (get4 m.t f)) 3 by show bhRow m b k (get4 b.t k).toNat (pT (bhTo m b k) k (get4 m.t (get4 b.t k).toNat)) 3 = _; rw [e2])
      clear e1 e2
      have m0 : (0 : Int) ≤ (k : Int) := by omega
      have m1 : (k : Int) < 4 := by omega
      have m2 : (0 : Int) ≤ (f : Int) := by omega
      have m3 : (f : Int) < 4 := by omega
      go_upto_region 7 with fail
      have HB : Hid (Below w.heap.size w (wr.setCell ⟨w.heap.size + 1 + 1 + 1, k, none⟩ (.int .i64 (get4 m.t f)))) := Lib.hid (by repeat (first | with_reducible exact Below.refl _ _ | with_reducible exact HB.out | with_reducible apply Below.drew | with_reducible apply bdN | with_reducible refine Below.alloc ?_ (by first | exact Nat.le_refl _ | with_reducible exact HB.out.size | omega | (simp; done) | (simp; omega) | (have := HB.out.size; simp at *; omega)) _ | with_reducible refine Below.setCell ?_ (by first | exact Nat.le_refl _ | with_reducible exact HB.out.size | omega | (simp; done) | (simp; omega) | (have := HB.out.size; simp at *; omega)) _))
      have K0 := Lib.hid (MBox.far K0.out (p := ⟨w.heap.size + 1 + 1 + 1, k, none⟩) (by simp only; omega) (.int .i64 (get4 m.t f)))
      have K1 := Lib.hid (MBox.far K1.out (p := ⟨w.heap.size + 1 + 1 + 1, k, none⟩) (by simp only; omega) (.int .i64 (get4 m.t f)))
      have K2 := Lib.hid (MBox.far K2.out (p := ⟨w.heap.size + 1 + 1 + 1, k, none⟩) (by simp only; omega) (.int .i64 (get4 m.t f)))
      have K3 := Lib.hid (MBox.putT K3.out hlt (get4 m.t f))
      generalize wr.setCell ⟨w.heap.size + 1 + 1 + 1, k, none⟩ (.int .i64 (get4 m.t f)) = w1 at *
      clear a0 a1 i0 k0z k1z k3z k3f
      go_wp2_with fail
      go_loopw [8] (fun i wr => ∃ v : Nat, v ≤ 3 ∧ i = .int .i64 v ∧ Hid (Below w.heap.size w wr) ∧ Hid (MBox wr w.heap.size ⟨28, m⟩) ∧ Hid (MBox wr (w.heap.size + 1) ⟨28, b⟩) ∧ Hid (MBox wr (w.heap.size + 1 + 1) ⟨28, zeroM⟩) ∧ Hid (MBox wr (w.heap.size + 1 + 1 + 1) ⟨28, bhRow m b k f (pT (bhTo m b k) k (get4 m.t f)) v⟩)) (fun i _ => 3 - (intOf i).toNat)
      case atStart => exact ⟨0, Nat.zero_le _, rfl, HB, K0, K1, K2, K3⟩
      case round =>
        clear HB K0 K1 K2 K3
        obtain ⟨v, hv, rfl, HB, K0, K1, K2, K3⟩ := hrel
        have k0z := K0.out.lt
        have k1z := K1.out.lt
        have k3z := K3.out.lt
        have k3f := K3.out.frozen
        by_cases hlv : v < 3
        · have i0 := MBox.atV' K0.out hf hlv
          obtain ⟨x, hx, e1, e2⟩ := get3_nat (getV_pm HM.out f) v
          have HR := Lib.hid (show bhRow m b k f (pT (bhTo m b k) k (get4 m.t f)) (v + 1) = pV (bhRow m b k f (pT (bhTo m b k) k (get4 m.t f)) v) k v (get3 (getV b k) x) by show pV _ k v (get3 (getV b k) (get3 (getV m f) v)) = _; rw [e1])
          dsimp only at i0
          rw [e1] at i0
          clear e1 e2
          have a0 := MBox.atV' K1.out hlt hx
          have a1 := MBox.atV' K3.out hlt hlv
          have n0 : (0 : Int) ≤ (v : Int) := by omega
          have n1 : (v : Int) < 3 := by omega
          have n2 : (0 : Int) ≤ (x : Int) := by omega
          have n3 : (x : Int) < 3 := by omega
          go_wp2_with fail
          go_region
          go_wp2_with fail
          go_roundw
          case rel => exact ⟨v + 1, by omega, by go_num, Lib.hid (by repeat (first | with_reducible exact Below.refl _ _ | with_reducible exact HB.out | with_reducible apply Below.drew | with_reducible apply bdN | with_reducible refine Below.alloc ?_ (by first | exact Nat.le_refl _ | with_reducible exact HB.out.size | omega | (simp; done) | (simp; omega) | (have := HB.out.size; simp at *; omega)) _ | with_reducible refine Below.setCell ?_ (by first | exact Nat.le_refl _ | with_reducible exact HB.out.size | omega | (simp; done) | (simp; omega) | (have := HB.out.size; simp at *; omega)) _)), Lib.hid (MBox.far (MBox.drewN K0.out _) (by simp only; omega) _), Lib.hid (MBox.far (MBox.drewN K1.out _) (by simp only; omega) _), Lib.hid (MBox.far (MBox.drewN K2.out _) (by simp only; omega) _), by rw [HR.out]; exact Lib.hid (MBox.putV (MBox.drewN K3.out _) hlt hlv _)⟩
          case measure => simp [intOf]; omega
        · obtain rfl : v = 3 := by omega
          rw [← HS0.out] at K3
          go_wp2_with fail
          go_roundw
          case rel => exact ⟨k + 1, by omega, by go_num, HB, K0, K1, K2, K3⟩
          case measure => simp [intOf]; omega
    · obtain rfl : k = 4 := by omega
      rw [HE.out] at K3
      go_wp2_with (first | ((with_reducible refine take_map rfl _ rfl K3.out ?_ ?_); rfl) | ((with_reducible refine store_map rfl _ _ rfl K2.out ?_ (bh m b) ?_ ?_); rfl; rfl; intro w6 hM hG))
      try simp only [Exit.inBlock, Exit.then]
      refine bodyPost_ret (res_map Try.results66 rfl hM) rfl ?_
      exact ⟨rfl, HB.out.grown hG HB.out.size (fun k hk => by injection hk with hk; omega)⟩
end Go.Proofs.Ytngfdfgeoieebaa.maps
