/- GreedyPicking: the model's. -/
import Derived.Test.YtnmlggieabjapaaZe
import Derived.Test.YtnmlggieabjapaaZg
namespace Go.Proofs.Ytnmlggieabjapaa.parting
open Go.RowKit
open cards maps
set_option linter.unusedVariables false

set_option maxRecDepth 100000 in
set_option maxHeartbeats 4000000 in
theorem spec_gp (l : List Cd) (p : Option Addr) (n cp : Nat) (w : World) (hn : l.length = n) (hl : n ≤ 1000000000) (hr : Rd w p (flat l)) :
    Calls Try.prog 45 #[.slice p n cp] w fun e w' => ∃ u, e = .returned (.tuple #[u, .bool (grdR l).2]) ∧ OwnA3 w' w.heap.size u (grdR l).1 ∧ Below w.heap.size w w' := by
  have HN := Lib.hid hn
  have HR := Lib.hid hr
  have HO0 := Lib.hid (OwnA3.empty w w.heap.size (Nat.le_refl _))
  clear hn hr
  go_enter Try.func45, Try.ntmps45
  go_wp2_with fail
  obtain ⟨w0, ew, b⟩ : ∃ w1 : World, w1 = (w.alloc (.cells #[] 56)) ∧ Below ((w.alloc (.cells #[] 56))).heap.size ((w.alloc (.cells #[] 56))) w1 := ⟨_, rfl, Below.refl _ _⟩
  rw [← ew]
  clear ew
  have Sw0 := Lib.hid b.size
  have HB := Lib.hid (chain0 (w := w) (by repeat (first | with_reducible exact Below.refl _ _ | with_reducible exact HB.out | with_reducible apply Below.drew | with_reducible apply bdN | with_reducible refine Below.alloc ?_ (by first | exact Nat.le_refl _ | with_reducible exact HB.out.size | omega | (simp; done) | (simp; omega) | (have := HB.out.size; simp at *; omega)) _ | with_reducible refine Below.setCell ?_ (by first | exact Nat.le_refl _ | with_reducible exact HB.out.size | omega | (simp; done) | (simp; omega) | (have := HB.out.size; simp at *; omega)) _)) b)
  have HR := Lib.hid (Rd.below (by repeat (first | with_reducible exact HR.out | with_reducible apply Rd.drewN | with_reducible apply Rd.drew | with_reducible apply Rd.alloc)) b)
  have HO0 := Lib.hid (OwnA3.below (by repeat (first | with_reducible exact HO0.out | with_reducible apply OwnA3.drewN | with_reducible apply OwnA3.drew | with_reducible apply OwnA3.alloc)) b)
  clear b
  go_wp2_with fail
  refine ((l2_hand l p n cp _ HN.out hl (by repeat (first | with_reducible exact HR.out | with_reducible apply Rd.drewN | with_reducible apply Rd.drew | with_reducible apply Rd.alloc)))).mono ?_
  rintro e w1 ⟨rfl, b⟩
  have Sw1 := Lib.hid b.size
  have HB := Lib.hid (chain0 (w := w) (by repeat (first | with_reducible exact Below.refl _ _ | with_reducible exact HB.out | with_reducible apply Below.drew | with_reducible apply bdN | with_reducible refine Below.alloc ?_ (by first | exact Nat.le_refl _ | with_reducible exact HB.out.size | omega | (simp; done) | (simp; omega) | (have := HB.out.size; simp at *; omega)) _ | with_reducible refine Below.setCell ?_ (by first | exact Nat.le_refl _ | with_reducible exact HB.out.size | omega | (simp; done) | (simp; omega) | (have := HB.out.size; simp at *; omega)) _)) b)
  have HR := Lib.hid (Rd.below (by repeat (first | with_reducible exact HR.out | with_reducible apply Rd.drewN | with_reducible apply Rd.drew | with_reducible apply Rd.alloc)) b)
  have HO0 := Lib.hid (OwnA3.below (by repeat (first | with_reducible exact HO0.out | with_reducible apply OwnA3.drewN | with_reducible apply OwnA3.drew | with_reducible apply OwnA3.alloc)) b)
  clear b
  cases hh : handB l
  · have HT := Lib.hid (show grdR l = ([], false) by unfold grdR; rw [if_neg (by simp [hh])])
    go_wp2_with fail
    go_ret2
    exact ⟨_, ret_two (by rw [HT.out]), by rw [HT.out]; exact HO0.out, by repeat (first | with_reducible exact Below.refl _ _ | with_reducible exact HB.out | with_reducible apply Below.drew | with_reducible apply bdN | with_reducible refine Below.alloc ?_ (by first | exact Nat.le_refl _ | with_reducible exact HB.out.size | omega | (simp; done) | (simp; omega) | (have := HB.out.size; simp at *; omega)) _ | with_reducible refine Below.setCell ?_ (by first | exact Nat.le_refl _ | with_reducible exact HB.out.size | omega | (simp; done) | (simp; omega) | (have := HB.out.size; simp at *; omega)) _)⟩
  · have HT := Lib.hid (show grdR l = (grd [] (allL l n), true) by unfold grdR; rw [if_pos hh, HN.out])
    have HH := Lib.hid (handB_true.1 hh)
    have hlen := lines_len HH.out
    rw [HN.out] at hlen
    have HL := l2_lines l p n cp w1 HN.out (by have := HH.out.1; have := HN.out; omega) HR.out HH.out.2.1 HH.out.2.2
    obtain ⟨A, hA⟩ : ∃ A, allL l n = A := ⟨_, rfl⟩
    rw [hA] at HT HL hlen
    replace HL := Lib.hid HL
    obtain ⟨m, hm⟩ : ∃ m, A.length = m := ⟨_, rfl⟩
    rw [hm] at hlen
    have HM := Lib.hid hm
    clear hA hm hh
    have hm1 : m ≤ 729 := hlen
    clear hlen
    go_wp2_with fail
    refine (HL.out).mono ?_
    rintro e w2 ⟨u, rfl, hu, b⟩
    have HU := Lib.hid hu
    have Sw2 := Lib.hid b.size
    have HB := Lib.hid (chain0 (w := w) (by repeat (first | with_reducible exact Below.refl _ _ | with_reducible exact HB.out | with_reducible apply Below.drew | with_reducible apply bdN | with_reducible refine Below.alloc ?_ (by first | exact Nat.le_refl _ | with_reducible exact HB.out.size | omega | (simp; done) | (simp; omega) | (have := HB.out.size; simp at *; omega)) _ | with_reducible refine Below.setCell ?_ (by first | exact Nat.le_refl _ | with_reducible exact HB.out.size | omega | (simp; done) | (simp; omega) | (have := HB.out.size; simp at *; omega)) _)) b)
    have HR := Lib.hid (Rd.below (by repeat (first | with_reducible exact HR.out | with_reducible apply Rd.drewN | with_reducible apply Rd.drew | with_reducible apply Rd.alloc)) b)
    have HO0 := Lib.hid (OwnA3.below (by repeat (first | with_reducible exact HO0.out | with_reducible apply OwnA3.drewN | with_reducible apply OwnA3.drew | with_reducible apply OwnA3.alloc)) b)
    clear b
    clear hu
    have hsp := HU.out.span
    obtain ⟨pa, ca, rfl, _, _, _⟩ := HU.out.form
    rw [HM.out] at HU hsp ⊢
    have HAp : Hid (Ap (.slice (some ⟨w.heap.size, 0, none⟩) 0 0) (.slice pa m ca)) := Lib.hid (fun g h1 h2 => by
      have h3 := (hsp g h2).1
      have h4 : w.heap.size = g := by simpa [Value.ownBlock] using h1
      have h5 := Sw0.out
      have h6 := Sw1.out
      simp at h5
      omega)
    clear hsp
    go_wp2_with fail
    go_loopw [4, 6] (fun v i wr => ∃ k : Nat, k ≤ m ∧ i = .int .i64 k ∧ Hid (OwnA3 wr w.heap.size v (grd [] (A.take k))) ∧ Hid (Below w.heap.size w wr) ∧ Hid (OwnA3 wr w1.heap.size (.slice pa m ca) A) ∧ Hid (Ap v (.slice pa m ca))) (fun _ i _ => m - (intOf i).toNat)
    case atStart => exact ⟨0, Nat.zero_le _, rfl, HO0, HB, HU, HAp⟩
    case round =>
      clear HB HO0 HU HAp
      obtain ⟨k, hk, rfl, HO, HB, HU, HAp⟩ := hrel
      have HSz := Lib.hid HB.out.size
      by_cases hlt : k < m
      · obtain ⟨b, o, x, rfl, hb, hx, c0, c1, c2⟩ := HU.out.rd.aA3 (k := k) (by rw [HM.out]; exact hlt)
        have HX := Lib.hid hx
        have HG := Lib.hid (show grd [] (A.take (k + 1)) = if free (grd [] (A.take k)) x = true then grd [] (A.take k) ++ [x] else grd [] (A.take k) by rw [take_snoc hx, grd_snoc])
        have hgl : (grd [] (A.take k)).length ≤ 729 := by have := grd_len (A.take k) []; simp at this; omega
        obtain ⟨G, hGG⟩ : ∃ G, grd [] (A.take k) = G := ⟨_, rfl⟩
        rw [hGG] at HO HG hgl
        have HGl := Lib.hid hgl
        clear hx hGG hgl
        have m0 : (0 : Int) ≤ (k : Int) := by omega
        have m1 : (k : Int) < (m : Int) := by omega
        obtain ⟨pv, cv, rfl, _, rv, _⟩ := HO.out.form
        have HV := Lib.hid rv
        have HP := Lib.hid (fun w' (hw : Rd w' pv (A3.flat G)) => l7_free G x pv G.length cv w' rfl (by have := HGl.out; omega) hw)
        obtain ⟨fr, hfr⟩ : ∃ fr, free G x = fr := ⟨_, rfl⟩
        rw [hfr] at HP HG
        clear rv hfr
        obtain ⟨z, hz⟩ : ∃ z, G.length = z := ⟨_, rfl⟩
        have HZ := Lib.hid hz
        rw [hz] at HO HP HGl HAp ⊢
        clear hz
        go_wp2_with fail
        refine (HP.out _ HV.out).mono ?_
        rintro e w4 ⟨rfl, b2⟩
        have HO2 := Lib.hid (HO.out.below b2)
        have HU2 := Lib.hid (HU.out.below b2)
        have HB2 : Hid (Below w.heap.size w w4) := Lib.hid (chain0 HB.out b2)
        have d0 := (b2.cell (p := ⟨b, _, none⟩) hb).trans c0
        have d1 := (b2.cell (p := ⟨b, _, none⟩) hb).trans c1
        have d2 := (b2.cell (p := ⟨b, _, none⟩) hb).trans c2
        have HSz2 := Lib.hid HB2.out.size
        clear b2 c0 c1 c2 HO HU
        cases fr
        · rw [if_neg (by simp)] at HG
          go_wp2_with fail
          go_roundw
          case rel => exact ⟨k + 1, by omega, by go_num, by rw [HG.out]; exact HO2, HB2, HU2, HAp⟩
          case measure => simp [intOf]; omega
        · rw [if_pos rfl] at HG
          go_wp2_with (at_builtin; refine append_A3_at rfl (.tmp 26) (.tmp 31) rfl w.heap.size _ G x _ _ rfl rfl rfl HO2.out (by have := HGl.out; have := HZ.out; omega) HSz2.out ?_; intro v1 w5 hO1 hB1 hG1 hat1)
          rw [← HG.out] at hO1
          go_roundw
          case rel => exact ⟨k + 1, by omega, by go_num, hO1, HB2.out.trans hB1, Lib.hid (HU2.out.past hG1 HAp.out), Lib.hid (HAp.out.next (fun g hg => Nat.lt_succ_of_lt ((HU2.out.span g hg).2)) hat1)⟩
          case measure => simp [intOf]; omega
      · obtain rfl : k = m := by omega
        have hfin : A.take k = A := by rw [← HM.out, List.take_length]
        rw [hfin] at HO
        clear hfin
        go_wp2_with fail
        go_ret2
        exact ⟨_, ret_two (by rw [HT.out]), by rw [HT.out]; exact HO.out, HB.out⟩
end Go.Proofs.Ytnmlggieabjapaa.parting
