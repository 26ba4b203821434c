/- LineCounts: the model's. -/
import Derived.Test.YtnibkipepmakgaaZl
import Derived.Test.YtnibkipepmakgaaZh
import Derived.Test.YtnibkipepmakgaaZg
namespace Go.Proofs.Ytnibkipepmakgaa.parting
open Go.RowKit
open cards maps
set_option linter.unusedVariables false

theorem cnts_take (ls : List A3) {n k : Nat} (hk : k < n) : (cnts ls n).take (k + 1) = (cnts ls n).take k ++ [((cnt ls (k : Int) : Nat) : Int)] := take_snoc (cnts_at ls hk)

set_option maxRecDepth 100000 in
set_option maxHeartbeats 4000000 in
theorem spec_lc (l : List Cd) (p : Option Addr) (n cp : Nat) (w : World) (hn : l.length = n) (hl : n ≤ 1000000000) (hr : Rd w p (flat l)) :
    Calls Try.prog 9 #[.slice p n cp] w fun e w' => ∃ u, e = .returned (.tuple #[u, .bool (lcR l).2]) ∧ OwnI w' w.heap.size u (lcR l).1 ∧ Below w.heap.size w w' := by
  have HN := Lib.hid hn
  have HR := Lib.hid hr
  have HO0 := Lib.hid (OwnI.empty w w.heap.size (Nat.le_refl _))
  clear hn hr
  go_enter Try.func9, Try.ntmps9
  go_wp2_with fail
  obtain ⟨w0, ew, b⟩ : ∃ wOPN : World, wOPN = (w.alloc (.cells #[] 3)) ∧ Below ((w.alloc (.cells #[] 3))).heap.size ((w.alloc (.cells #[] 3))) wOPN := ⟨_, rfl, Below.refl _ _⟩
  rw [← ew]
  clear ew
  have Sw0 := Lib.hid b.size
  have HB := Lib.hid (chain0 (w := w) (by repeat (first | with_reducible exact Below.refl _ _ | with_reducible exact HB.out | with_reducible apply Below.drew | with_reducible apply bdN | with_reducible refine Below.alloc ?_ (by first | exact Nat.le_refl _ | with_reducible exact HB.out.size | omega | (simp; done) | (simp; omega) | (have := HB.out.size; simp at *; omega)) _ | with_reducible refine Below.setCell ?_ (by first | exact Nat.le_refl _ | with_reducible exact HB.out.size | omega | (simp; done) | (simp; omega) | (have := HB.out.size; simp at *; omega)) _)) b)
  have HR := Lib.hid (Rd.below (by repeat (first | with_reducible exact HR.out | with_reducible apply Rd.drewN | with_reducible apply Rd.drew | with_reducible apply Rd.alloc)) b)
  have HO0 := Lib.hid (OwnI.below (by repeat (first | with_reducible exact HO0.out | with_reducible apply OwnI.drewN | with_reducible apply OwnI.drew | with_reducible apply OwnI.alloc)) b)
  clear b
  go_wp2_with fail
  refine ((l2_hand l p n cp _ HN.out hl (by repeat (first | with_reducible exact HR.out | with_reducible apply Rd.drewN | with_reducible apply Rd.drew | with_reducible apply Rd.alloc)))).mono ?_
  rintro e w1 ⟨rfl, b⟩
  have Sw1 := Lib.hid b.size
  have HB := Lib.hid (chain0 (w := w) (by repeat (first | with_reducible exact Below.refl _ _ | with_reducible exact HB.out | with_reducible apply Below.drew | with_reducible apply bdN | with_reducible refine Below.alloc ?_ (by first | exact Nat.le_refl _ | with_reducible exact HB.out.size | omega | (simp; done) | (simp; omega) | (have := HB.out.size; simp at *; omega)) _ | with_reducible refine Below.setCell ?_ (by first | exact Nat.le_refl _ | with_reducible exact HB.out.size | omega | (simp; done) | (simp; omega) | (have := HB.out.size; simp at *; omega)) _)) b)
  have HR := Lib.hid (Rd.below (by repeat (first | with_reducible exact HR.out | with_reducible apply Rd.drewN | with_reducible apply Rd.drew | with_reducible apply Rd.alloc)) b)
  have HO0 := Lib.hid (OwnI.below (by repeat (first | with_reducible exact HO0.out | with_reducible apply OwnI.drewN | with_reducible apply OwnI.drew | with_reducible apply OwnI.alloc)) b)
  clear b
  cases hh : handB l
  · have HT := Lib.hid (show lcR l = ([], false) by unfold lcR; rw [if_neg (by simp [hh])])
    go_wp2_with fail
    go_ret2
    exact ⟨_, ret_two (by rw [HT.out]), by rw [HT.out]; exact HO0.out, by repeat (first | with_reducible exact Below.refl _ _ | with_reducible exact HB.out | with_reducible apply Below.drew | with_reducible apply bdN | with_reducible refine Below.alloc ?_ (by first | exact Nat.le_refl _ | with_reducible exact HB.out.size | omega | (simp; done) | (simp; omega) | (have := HB.out.size; simp at *; omega)) _ | with_reducible refine Below.setCell ?_ (by first | exact Nat.le_refl _ | with_reducible exact HB.out.size | omega | (simp; done) | (simp; omega) | (have := HB.out.size; simp at *; omega)) _)⟩
  · have HT := Lib.hid (show lcR l = (cnts (allL l n) n, true) by unfold lcR; rw [if_pos hh, HN.out])
    have HH := Lib.hid (handB_true.1 hh)
    have h27 : n ≤ 27 := by have := HH.out.1; have := HN.out; omega
    have hlen := lines_len HH.out
    rw [HN.out] at hlen
    have HL := l2_lines l p n cp w1 HN.out h27 HR.out HH.out.2.1 HH.out.2.2
    obtain ⟨A, hA⟩ : ∃ A, allL l n = A := ⟨_, rfl⟩
    rw [hA] at HT HL hlen
    replace HL := Lib.hid HL
    obtain ⟨m, hm⟩ : ∃ m, A.length = m := ⟨_, rfl⟩
    rw [hm] at hlen
    have HM := Lib.hid hm
    clear hA hm hh
    have hm1 : m ≤ 729 := hlen
    clear hlen
    go_wp2_with fail
    refine (HL.out).mono ?_
    rintro e w2 ⟨u, rfl, hu, b⟩
    have HU := Lib.hid hu
    have Sw2 := Lib.hid b.size
    have HB := Lib.hid (chain0 (w := w) (by repeat (first | with_reducible exact Below.refl _ _ | with_reducible exact HB.out | with_reducible apply Below.drew | with_reducible apply bdN | with_reducible refine Below.alloc ?_ (by first | exact Nat.le_refl _ | with_reducible exact HB.out.size | omega | (simp; done) | (simp; omega) | (have := HB.out.size; simp at *; omega)) _ | with_reducible refine Below.setCell ?_ (by first | exact Nat.le_refl _ | with_reducible exact HB.out.size | omega | (simp; done) | (simp; omega) | (have := HB.out.size; simp at *; omega)) _)) b)
    have HR := Lib.hid (Rd.below (by repeat (first | with_reducible exact HR.out | with_reducible apply Rd.drewN | with_reducible apply Rd.drew | with_reducible apply Rd.alloc)) b)
    have HO0 := Lib.hid (OwnI.below (by repeat (first | with_reducible exact HO0.out | with_reducible apply OwnI.drewN | with_reducible apply OwnI.drew | with_reducible apply OwnI.alloc)) b)
    clear b
    clear hu
    have hsp := HU.out.span
    obtain ⟨pa, ca, rfl, _, _, _⟩ := HU.out.form
    rw [HM.out] at HU hsp ⊢
    have HAp : Hid (Ap (.slice (some ⟨w.heap.size, 0, none⟩) 0 0) (.slice pa m ca)) := Lib.hid (fun g h1 h2 => by
      have h3 := (hsp g h2).1
      have h4 : w.heap.size = g := by simpa [Value.ownBlock] using h1
      have h5 := Sw0.out
      have h6 := Sw1.out
      simp at h5
      omega)
    clear hsp
    go_wp2_with fail
    go_loopw [4, 6] (fun v i wr => ∃ k : Nat, k ≤ n ∧ i = .int .i64 k ∧ Hid (OwnI wr w.heap.size v ((cnts A n).take k)) ∧ Hid (Below w.heap.size w wr) ∧ Hid (OwnA3 wr w1.heap.size (.slice pa m ca) A) ∧ Hid (Ap v (.slice pa m ca))) (fun _ i _ => n - (intOf i).toNat)
    case atStart => exact ⟨0, Nat.zero_le _, rfl, HO0, HB, HU, HAp⟩
    case round =>
      clear HB HO0 HU HAp
      obtain ⟨k, hk, rfl, HO, HB, HU, HAp⟩ := hrel
      have HSz := Lib.hid HB.out.size
      by_cases hlt : k < n
      · have HG := Lib.hid (cnts_take A hlt)
        have hgl : ((cnts A n).take k).length ≤ 27 := by rw [List.length_take]; omega
        have HGl := Lib.hid hgl
        have hwl : (withP A (k : Int)).length = cnt A (k : Int) := cnt_filter A _
        have hcl : cnt A (k : Int) ≤ 729 := by have := cnt_le A (k : Int); have := HM.out; omega
        have HL7 := Lib.hid (l7_at A (k : Int) pa m ca wr HM.out (by omega) HU.out.rd)
        obtain ⟨z, hz⟩ : ∃ z, cnt A (k : Int) = z := ⟨_, rfl⟩
        rw [hz] at HG hwl hcl
        have HWl := Lib.hid hwl
        have m0 : (0 : Int) ≤ (k : Int) := by omega
        have m1 : (k : Int) < (n : Int) := by omega
        clear hgl hwl hz
        go_wp2_with fail
        refine (HL7.out).mono ?_
        rintro e w4 ⟨u4, rfl, ho4, b4⟩
        obtain ⟨p4, c4, rfl, _, _, _⟩ := ho4.form
        rw [HWl.out]
        have HO2 := Lib.hid (HO.out.below b4)
        have HU2 := Lib.hid (HU.out.below b4)
        have HB2 : Hid (Below w.heap.size w w4) := Lib.hid (chain0 HB.out b4)
        have HSz2 := Lib.hid HB2.out.size
        clear b4 HO HU ho4
        go_wp2_with (at_builtin; refine append_int_at rfl (.tmp 20) (.tmp 25) rfl w.heap.size _ ((cnts A n).take k) (z : Int) _ _ rfl rfl rfl HO2.out (by have := HGl.out; omega) HSz2.out ?_; intro v1 w5 hO1 hB1 hG1 hat1)
        rw [← HG.out] at hO1
        go_roundw
        case rel => exact ⟨k + 1, by omega, by go_num, hO1, HB2.out.trans hB1, Lib.hid (HU2.out.past hG1 HAp.out), Lib.hid (HAp.out.next (fun g hg => Nat.lt_succ_of_lt ((HU2.out.span g hg).2)) hat1)⟩
        case measure => simp [intOf]; omega
      · obtain rfl : k = n := by omega
        have hfin : (cnts A k).take k = cnts A k := List.take_of_length_le (by rw [cnts_len]; exact Nat.le_refl _)
        rw [hfin] at HO
        clear hfin
        go_wp2_with fail
        go_ret2
        exact ⟨_, ret_two (by rw [HT.out]), by rw [HT.out]; exact HO.out, HB.out⟩
end Go.Proofs.Ytnibkipepmakgaa.parting
