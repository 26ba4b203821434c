/- GreedyPicking: the program's and the model's. -/
import Derived.Test.YtnmlggieabjapaaZb
import Derived.Test.YtnmlggieabjapaaZd
namespace Go.Proofs.Ytnmlggieabjapaa.parting
open Go.RowKit
open cards maps
set_option linter.unusedVariables false

/-- The lines that are taken of a list, one after the other. -/
def grd : List A3 → List A3 → List A3
  | out, [] => out
  | out, x :: r => grd (if free out x = true then out ++ [x] else out) r
theorem grd_len : ∀ (r out : List A3), (grd out r).length ≤ out.length + r.length
  | [], out => by simp [grd]
  | x :: r, out => by
    have := grd_len r (if free out x = true then out ++ [x] else out)
    rw [grd, List.length_cons]
    split at this <;> simp_all <;> omega
theorem grd_snoc : ∀ (r out : List A3) (x : A3), grd out (r ++ [x]) = if free (grd out r) x = true then grd out r ++ [x] else grd out r
  | [], out, x => rfl
  | y :: r, out, x => by
    simp only [List.cons_append, grd]
    exact grd_snoc r _ x
noncomputable def grdR (l : List Cd) : List A3 × Bool := if handB l = true then (grd [] (allL l l.length), true) else ([], false)
theorem lines_len {l : List Cd} (h : isHand l) : (allL l l.length).length ≤ 729 := by
  have h1 := h.1
  have h2 := allL_len l l.length
  have h3 : l.length * l.length ≤ 27 * 27 := Nat.mul_le_mul h1 h1
  omega
theorem grdR_len (l : List Cd) : (grdR l).1.length ≤ 100000000 := by
  unfold grdR
  split
  · rename_i h
    have h1 := lines_len (handB_true.1 h)
    have h2 := grd_len (allL l l.length) []
    show (grd [] (allL l l.length)).length ≤ _
    simp at h2
    omega
  · simp

set_option maxRecDepth 100000 in
set_option maxHeartbeats 4000000 in
theorem impl_gp (l : List Cd) (p : Option Addr) (n cp : Nat) (w : World) (hn : l.length = n) (hl : n ≤ 1000000000) (hr : Rd w p (flat l)) :
    Calls Try.prog 46 #[.slice p n cp] w fun e w' => ∃ u, e = .returned (.tuple #[u, .bool (grdR l).2]) ∧ OwnA3 w' w.heap.size u (grdR l).1 ∧ Below w.heap.size w w' := by
  have HN := Lib.hid hn
  have HR := Lib.hid hr
  clear hn hr
  go_enter Try.func46, Try.ntmps46
  go_wp2_with fail
  refine (impl_lin l p n cp _ HN.out hl (by repeat (first | with_reducible exact HR.out | with_reducible apply Rd.drewN | with_reducible apply Rd.drew | with_reducible apply Rd.alloc))).mono ?_
  rintro e w1 ⟨u1, rfl, hu, b⟩
  have HU := Lib.hid hu
  have Sw1 := Lib.hid b.size
  have HB := Lib.hid (chain0 (w := w) (by repeat (first | with_reducible exact Below.refl _ _ | with_reducible exact HB.out | with_reducible apply Below.drew | with_reducible apply bdN | with_reducible refine Below.alloc ?_ (by first | exact Nat.le_refl _ | with_reducible exact HB.out.size | omega | (simp; done) | (simp; omega) | (have := HB.out.size; simp at *; omega)) _ | with_reducible refine Below.setCell ?_ (by first | exact Nat.le_refl _ | with_reducible exact HB.out.size | omega | (simp; done) | (simp; omega) | (have := HB.out.size; simp at *; omega)) _)) b)
  have HR := Lib.hid (Rd.below (by repeat (first | with_reducible exact HR.out | with_reducible apply Rd.drewN | with_reducible apply Rd.drew | with_reducible apply Rd.alloc)) b)
  clear b
  have HSz := Lib.hid HB.out.size
  clear hu
  cases hh : handB l
  · have HT := Lib.hid (show grdR l = ([], false) by unfold grdR; rw [if_neg (by simp [hh])])
    have hl2 : (linR l).2 = false := by unfold linR; rw [if_neg (by simp [hh])]
    rw [hl2]
    clear hl2 hh
    go_wp2_with fail
    go_ret2
    exact ⟨_, ret_two (by rw [HT.out]), by rw [HT.out]; exact OwnA3.empty _ _ HB.out.size, by repeat (first | with_reducible exact Below.refl _ _ | with_reducible exact HB.out | with_reducible apply Below.drew | with_reducible apply bdN | with_reducible refine Below.alloc ?_ (by first | exact Nat.le_refl _ | with_reducible exact HB.out.size | omega | (simp; done) | (simp; omega) | (have := HB.out.size; simp at *; omega)) _ | with_reducible refine Below.setCell ?_ (by first | exact Nat.le_refl _ | with_reducible exact HB.out.size | omega | (simp; done) | (simp; omega) | (have := HB.out.size; simp at *; omega)) _)⟩
  · have HT := Lib.hid (show grdR l = (grd [] (allL l n), true) by unfold grdR; rw [if_pos hh, HN.out])
    have hlr : linR l = (allL l n, true) := by unfold linR; rw [if_pos hh, HN.out]
    have hlen := lines_len (handB_true.1 hh)
    rw [HN.out] at hlen
    rw [hlr] at HU ⊢
    obtain ⟨A, hA⟩ : ∃ A, allL l n = A := ⟨_, rfl⟩
    rw [hA] at HT HU hlen
    obtain ⟨m, hm⟩ : ∃ m, A.length = m := ⟨_, rfl⟩
    rw [hm] at hlen
    have HM := Lib.hid hm
    clear hlr hh hA hm
    obtain ⟨pa, ca, rfl, _, ra, _⟩ := HU.out.form
    rw [HM.out] at HU ⊢
    have HA := Lib.hid ra
    clear ra
    have hm1 : m ≤ 729 := hlen
    clear hlen
    go_wp2_with fail
    go_loopw [6, 8, 20] (fun v _ i wr => ∃ k : Nat, k ≤ m ∧ i = .int .i64 k ∧ Hid (OwnA3 wr w1.heap.size v (grd [] (A.take k))) ∧ Hid (Below w1.heap.size w1 wr)) (fun _ _ i _ => m - (intOf i).toNat)
    case atStart => exact ⟨0, Nat.zero_le _, rfl, Lib.hid (OwnA3.empty _ _ (Nat.le_refl _)), Lib.hid ((Below.refl _ _).alloc (Nat.le_refl _) _)⟩
    case round =>
      obtain ⟨k, hk, rfl, HO, HBr⟩ := hrel
      by_cases hlt : k < m
      · obtain ⟨b, o, x, rfl, hb, hx, c0, c1, c2⟩ := (HA.out.below HBr.out).aA3 (k := k) (by rw [HM.out]; exact hlt)
        have HX := Lib.hid hx
        have HG := Lib.hid (show grd [] (A.take (k + 1)) = if free (grd [] (A.take k)) x = true then grd [] (A.take k) ++ [x] else grd [] (A.take k) by rw [take_snoc hx, grd_snoc])
        have hgl : (grd [] (A.take k)).length ≤ 729 := by have := grd_len (A.take k) []; simp at this; omega
        obtain ⟨G, hGG⟩ : ∃ G, grd [] (A.take k) = G := ⟨_, rfl⟩
        rw [hGG] at HO HG hgl
        have HGl := Lib.hid hgl
        clear hx hGG hgl
        have m0 : (0 : Int) ≤ (k : Int) := by omega
        have m1 : (k : Int) < (m : Int) := by omega
        obtain ⟨pv, cv, rfl, _, rv, _⟩ := HO.out.form
        have HV := Lib.hid rv
        have HP := Lib.hid (fun w' (hw : Rd w' pv (A3.flat G)) => is_apart G x pv G.length cv w' rfl (by have := HGl.out; omega) hw)
        obtain ⟨fr, hfr⟩ : ∃ fr, free G x = fr := ⟨_, rfl⟩
        rw [hfr] at HP HG
        clear rv hfr
        obtain ⟨z, hz⟩ : ∃ z, G.length = z := ⟨_, rfl⟩
        have HZ := Lib.hid hz
        rw [hz] at HO HP HGl ⊢
        clear hz
        have HBx := Lib.hid (HBr.out.trans (Below.refl _ _))
        go_wp2_with fail
        refine (HP.out _ (HV.out.alloc _)).mono ?_
        rintro e w2 ⟨rfl, b2⟩
        have HO2 := Lib.hid ((HO.out.alloc (A3.obj x)).below b2)
        have HT2 : Hid (TBox w2 wr.heap.size x) := Lib.hid ((TBox.newAt (w := wr) rfl rfl : TBox (wr.alloc x.obj) wr.heap.size x).below b2)
        have HB2 : Hid (Below w1.heap.size w1 w2) := Lib.hid (((HBr.out.alloc HBr.out.size _)).trans (b2.mono (by have := HBr.out.size; simp; omega)))
        have HSz2 := Lib.hid HB2.out.size
        obtain ⟨d0, d1, d2, _⟩ := HT2.out.cell
        clear b2 c0 c1 c2 HO
        cases fr
        · rw [if_neg (by simp)] at HG
          go_wp2_with fail
          go_roundw
          case rel => exact ⟨k + 1, by omega, by go_num, by rw [HG.out]; exact HO2, HB2⟩
          case measure => simp [intOf]; omega
        · rw [if_pos rfl] at HG
          go_wp2_with (at_builtin; refine append_A3 rfl (.tmp 27) (.tmp 29) rfl w1.heap.size _ G x _ _ rfl rfl rfl HO2.out (by have := HGl.out; have := HZ.out; omega) HSz2.out ?_; intro v1 w4 hO1 hB1)
          rw [← HG.out] at hO1
          go_roundw
          case rel => exact ⟨k + 1, by omega, by go_num, hO1, HB2.out.trans hB1⟩
          case measure => simp [intOf]; omega
      · obtain rfl : k = m := by omega
        have hfin : A.take k = A := by rw [← HM.out, List.take_length]
        rw [hfin] at HO
        clear hfin
        go_wp2_with fail
        go_ret2
        exact ⟨_, ret_two (by rw [HT.out]), by rw [HT.out]; exact OwnA3.base HO.out HSz.out, HB.out.trans (HBr.out.mono HSz.out)⟩
end Go.Proofs.Ytnmlggieabjapaa.parting
