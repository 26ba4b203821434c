/- Maps: the image of a hand, the program's. -/
import Derived.Test.YtngfdfgeoieebaaDb
import Derived.Test.YtngfdfgeoieebaaDe
import Derived.Test.YtngfdfgeoieebaaMx
namespace Go.Proofs.Ytngfdfgeoieebaa.maps
open Go.RowKit
open cards reg
set_option linter.unusedVariables false

set_option maxRecDepth 100000 in
set_option maxHeartbeats 4000000 in
theorem image_hand (m : Mp) (l : List Cd) (p : Option Addr) (n cp : Nat) (w : World) (hm : m.ok = true) (hn : l.length = n) (hl : n ≤ 81) (hr : Rd w p (flat l)) (hok : l.all Cd.ok = true) (hnd : l.Nodup) :
    Calls Try.prog 65 #[m.val, .slice p n cp] w fun e w' => ∃ u, e = .returned u ∧ Own w' w.heap.size u (allPut (imgs m l)) ∧ Below w.heap.size w w' := by
  have HN := Lib.hid hn
  have HK := Lib.hid hok
  have HD := Lib.hid hnd
  have HM := Lib.hid hm
  have hmk := made n (by omega)
  have K0 : Hid (MBox (w.alloc (Mv.obj ⟨28, m⟩)) w.heap.size ⟨28, m⟩) := Lib.hid (MBox.newAt rfl rfl)
  have HB : Hid (Below w.heap.size w (w.alloc (Mv.obj ⟨28, m⟩))) := Lib.hid ((Below.refl _ _).alloc (Nat.le_refl _) _)
  have HR := Lib.hid (Rd.alloc hr (Mv.obj ⟨28, m⟩))
  clear hm hn hr hok hnd
  go_enter Try.func65, Try.ntmps65
  go_upto_region 1 with fail
  generalize w.alloc (Mv.obj ⟨28, m⟩) = W at *
  have HO := Lib.hid (own_made W n (by omega))
  have HW := Lib.hid ((Below.refl W.heap.size W).alloc (Nat.le_refl _) (.cells (madeCells (Value.agg #[.int .i64 0, .int .i64 0, .int .i64 0, .int .i64 0]).cells (n * 4)) 22))
  obtain ⟨g, hg⟩ : ∃ g, W.heap.size = g := ⟨_, rfl⟩
  have HG := Lib.hid hg
  go_upto_region 2 with fail
  rw [hg] at HO HW
  try rw [hg]
  clear hg hmk
  rw [← part_zero (imgs m l) n] at HO
  have HLI := Lib.hid ((imgs_len m l).trans HN.out)
  go_wp2_with fail
  go_loopw [13] (fun i wr => ∃ k : Nat, k ≤ n ∧ i = .int .i64 k ∧ Hid (Own wr g (.slice (some ⟨g, 0, none⟩) n n) (cards.part (imgs m l) n k)) ∧ Hid (Below g W wr)) (fun i _ => n - (intOf i).toNat)
  case atStart => exact ⟨0, Nat.zero_le _, rfl, HO, HW⟩
  case round =>
    clear HO HW
    obtain ⟨k, hk, rfl, HO, HW⟩ := hrel
    have HWB : Hid (Below W.heap.size W wr) := Lib.hid (by rw [HG.out]; exact HW.out)
    by_cases hlt : k < n
    · obtain ⟨b, o, x, rfl, hb, hx, c0, c1, c2, c3⟩ := (Rd.below HR.out HWB.out).card (k := k) (by rw [HN.out]; exact hlt)
      have HX := Lib.hid (ok_at HK.out hx)
      have HIx := Lib.hid (imgs_at (m := m) hx)
      have b0 : (0 : Int) ≤ (k : Int) := by omega
      have b1 : (k : Int) < (n : Int) := by omega
      clear hx
      go_upto_region 5 with fail
      clear c0 c1 c2 c3
      have KX : Hid (Box (wr.alloc x.obj) wr.heap.size x) := Lib.hid (Box.newAt rfl rfl)
      have KM := Lib.hid ((MBox.below K0.out HWB.out).alloc x.obj)
      have HO := Lib.hid (HO.out.alloc x.obj)
      have HW := Lib.hid (HW.out.alloc (by have := HWB.out.size; have := HG.out; omega) x.obj)
      obtain ⟨g', hg'⟩ : ∃ g', wr.heap.size = g' := ⟨_, rfl⟩
      rw [hg'] at KX
      try rw [hg']
      clear hg' HWB
      generalize wr.alloc x.obj = w7 at *
      obtain ⟨kxa, kxb, kxc, kxd⟩ := KX.out.cell
      go_wp2_with ((with_reducible refine take_map rfl _ rfl KM.out ?_ ?_); rfl)
      refine (image_run m x _ HM.out HX.out).mono ?_
      rintro e w8 ⟨rfl, q⟩
      clear kxa kxb kxc kxd
      have HO := Lib.hid (Own.below HO.out q)
      have HW := Lib.hid (HW.out.trans (q.mono (by have := HW.out.size; have := HG.out; omega)))
      clear q KX KM
      obtain ⟨y, hy⟩ : ∃ y, img m x = y := ⟨_, rfl⟩
      rw [hy] at HIx ⊢
      clear hy
      have HP := Lib.hid (part_set (n := n) HLI.out hlt HIx.out)
      obtain ⟨z, hz, d0, d1, d2, d3, hf, hB, hgz⟩ := HO.out.slots (part_len HLI.out hk) k hlt
      clear hz
      have HS := Lib.hid (HO.out.store (part_len HLI.out hk) k hlt y)
      rw [HP.out] at HS
      clear HO
      go_wp2_with fail
      go_roundw
      case rel => exact ⟨k + 1, by omega, by go_num, HS, Lib.hid ((((HW.out.setCell (by simp only; omega) _).setCell (by simp only; omega) _).setCell (by simp only; omega) _).setCell (by simp only; omega) _)⟩
      case measure => simp [intOf]; omega
    · obtain rfl : k = n := by omega
      rw [part_all HLI.out] at HO
      have HB2 := Lib.hid (HB.out.trans (HWB.out.mono HB.out.size))
      clear HWB
      go_wp2_with fail
      refine (sort_cards (imgs m l) g k k g _ HLI.out (by omega) HO.out).mono ?_
      rintro e w9 ⟨rfl, l', hp, hl', hs, ho, hG⟩
      have HE := Lib.hid (sorted_allPut (imgs_ok HM.out l) (imgs_nodup HM.out HK.out HD.out) hp hl' hs)
      have HGB := Lib.hid HB.out.size
      have HB := Lib.hid (HB2.out.grown hG HB2.out.size (fun q hq => by injection hq with hq; have := HG.out; have := HGB.out; omega))
      rw [HE.out] at ho
      have HO := Lib.hid (Own.base ho (B' := w.heap.size) (by have := HG.out; have := HGB.out; omega))
      clear hp hl' hs ho hG
      go_wp2_with fail
      go_ret
      exact ⟨_, rfl, HO.out, HB.out⟩
end Go.Proofs.Ytngfdfgeoieebaa.maps
