/- LinesOfKind: the closure, the program, the model. -/
import Derived.Test.YtjmlefcmhjodeaaXj
import Derived.Test.YtjmlefcmhjodeaaXa
import Derived.Test.YtjmlefcmhjodeaaXl
namespace Go.Proofs.Ytjmlefcmhjodeaa.others
open Go.RowKit
open cards reg
open deal (TBox TBox.below TBox.newAt TBox.alloc TBox.cell TBox.lt TBox.drewN TBox.drew)
set_option linter.unusedVariables false

def isK (l : List Cd) (k : Int) (a : A3) : Bool := decide ((kindL l a : Int) = k)
noncomputable def lokR (l : List Cd) (k : Int) : List A3 × Bool := if handB l = true ∧ (1 ≤ k ∧ k ≤ 4) then ((allL l l.length).filter (isK l k), true) else ([], false)
theorem lokR_no {l : List Cd} {k : Int} (h : ¬ (handB l = true ∧ (1 ≤ k ∧ k ≤ 4))) : lokR l k = ([], false) := by unfold lokR; rw [if_neg h]
theorem lokR_len (l : List Cd) (k : Int) : (lokR l k).1.length ≤ 100000000 := by
  unfold lokR
  split
  · rename_i h
    have h1 := (handB_true.1 h.1).1
    have h2 := allL_len l l.length
    have h3 : l.length * l.length ≤ 27 * 27 := Nat.mul_le_mul h1 h1
    have h4 := List.length_filter_le (isK l k) (allL l l.length)
    show ((allL l l.length).filter (isK l k)).length ≤ _
    omega
  · simp
theorem Rd.off {w w1 : World} {p : Option Addr} {xs : List Value} {row : Option Nat} (h : Rd w p xs) (hg : w.grownBy w1 row) (hp : 0 < xs.length → ∀ b o, p = some ⟨b, o, none⟩ → row ≠ some b) : Rd w1 p xs := fun hx => by
  obtain ⟨b, o, rfl, hlt, hc⟩ := h hx
  refine ⟨b, o, rfl, Nat.lt_of_lt_of_le hlt hg.size, fun j v hv => ?_⟩
  have e := hg.block b hlt (fun e => hp hx b o rfl e.symm)
  have := hc j v hv
  unfold World.cell? at this ⊢
  rw [e]; exact this
/-- What the closure reads: the hand and the kind. -/
def Cap2 (g2 g3 : Nat) (p : Option Addr) (n cp : Nat) (l : List Cd) (k : Int) (w : World) : Prop := VB w g2 26 #[.slice p n cp] ∧ VB w g3 3 #[.int .i64 k] ∧ Rd w p (flat l)
set_option maxRecDepth 100000 in
set_option maxHeartbeats 4000000 in
theorem lok_fun (l : List Cd) (p : Option Addr) (n cp g2 g3 : Nat) (k : Int) (a : A3) (w : World) (hn : l.length = n) (hh : isHand l) (ha : a ∈ allL l n) (hc : Cap2 g2 g3 p n cp l k w) :
    Calls Try.prog 65 #[a.val, .pointer (some ⟨g2, 0, none⟩), .pointer (some ⟨g3, 0, none⟩)] w fun e w' => e = .returned (.bool (!isK l k a)) ∧ Below w.heap.size w w' := by
  obtain ⟨i, j, q, x, y, z, rfl, hi, hj, hq, hx, hy, hz, hli⟩ := line_parts hn hh.2.2 hh.2.1 ha
  obtain ⟨v2, v3, hr⟩ := hc
  have HK := Lib.hid (fun w h => kind_at l p n cp i j q x y z w hn (by have := hh.1; omega) h hh.2.1 hx hy hz hli)
  have hdb := line_dif hli
  have HE := Lib.hid (show (dif x y != k) = !isK l k ⟨i, j, q⟩ by
    unfold isK
    rw [kindL_at hx hy, Int.toNat_of_nonneg (by omega)]
    rw [Bool.eq_iff_iff]; simp)
  obtain ⟨d, hd⟩ : ∃ d, dif x y = d := ⟨_, rfl⟩
  rw [hd] at HK HE
  clear hi hj hq hx hy hz hli ha hdb hd hn hh
  have V2 := Lib.hid v2
  have V3 := Lib.hid v3
  have HR := Lib.hid hr
  clear v2 v3 hr
  rw [← HE.out]
  go_enter Try.func65, Try.ntmps65
  go_upto_region 1 with fail
  obtain ⟨w1, ew, b⟩ : ∃ wOPN : World, wOPN = (w.alloc (A3.mk i j q).obj) ∧ Below ((w.alloc (A3.mk i j q).obj)).heap.size ((w.alloc (A3.mk i j q).obj)) wOPN := ⟨_, rfl, Below.refl _ _⟩
  rw [← ew]
  clear ew
  have Sw1 := Lib.hid b.size
  have HB := Lib.hid (chain0 (w := w) (by repeat (first | with_reducible exact Below.refl _ _ | with_reducible exact HB.out | with_reducible apply Below.drew | with_reducible apply bdN | with_reducible refine Below.alloc ?_ (by first | exact Nat.le_refl _ | with_reducible exact HB.out.size | omega | (simp; done) | (simp; omega) | (have := HB.out.size; simp at *; omega)) _ | with_reducible refine Below.setCell ?_ (by first | exact Nat.le_refl _ | with_reducible exact HB.out.size | omega | (simp; done) | (simp; omega) | (have := HB.out.size; simp at *; omega)) _)) b)
  have V2 := Lib.hid (VB.below (by repeat (first | with_reducible exact V2.out | with_reducible apply VB.drewN | with_reducible apply VB.drew | with_reducible apply VB.alloc)) b)
  have V3 := Lib.hid (VB.below (by repeat (first | with_reducible exact V3.out | with_reducible apply VB.drewN | with_reducible apply VB.drew | with_reducible apply VB.alloc)) b)
  have HR := Lib.hid (Rd.below (by repeat (first | with_reducible exact HR.out | with_reducible apply Rd.drewN | with_reducible apply Rd.drew | with_reducible apply Rd.alloc)) b)
  have K0 : Hid (TBox _ (w.heap.size) (⟨(i : Int), (j : Int), (q : Int)⟩)) := Lib.hid (TBox.below (by repeat (first | with_reducible exact K0.out | with_reducible apply TBox.drewN | with_reducible apply TBox.drew | (with_reducible refine TBox.newAt ?_ ?_ <;> first | (simp; done) | rfl) | with_reducible apply TBox.alloc)) b)
  try clear k0a k0b k0c k0d k0z
  have k0z := K0.out.lt
  obtain ⟨k0a, k0b, k0c, k0d⟩ := K0.out.cell
  clear b
  have c0 := VB.at_ V2.out (j := 0) rfl
  have c1 := VB.at_ V3.out (j := 0) rfl
  have qk0a := fun d os => cell_regrown k0a d os
  have qk0b := fun d os => cell_regrown k0b d os
  have qk0c := fun d os => cell_regrown k0c d os
  have qc0 := fun d os => cell_regrown c0 d os
  have qc1 := fun d os => cell_regrown c1 d os
  refine wp_region_quiet_below (by kernel_rfl) (by kernel_rfl) ?_
  repeat (first | go_big_quiet_step ((go_at_call 63; with_reducible exact Calls.regrown_of (HK.out _ (HR.out.below (below_regrown _ _ _))))) | quiet_step ((go_at_call 63; with_reducible exact Calls.regrown_of (HK.out _ (HR.out.below (below_regrown _ _ _))))))
  refine wpQuiet_nil ?_
  intro w2 hw2
  have b : Below w1.heap.size w1 w2 := by obtain ⟨r, hr⟩ := hw2; rw [hr]; exact below_regrown _ _ _
  clear hw2 qc0 qc1 qk0a qk0b qk0c
  have Sw2 := Lib.hid b.size
  have HB := Lib.hid (chain0 (w := w) (by repeat (first | with_reducible exact Below.refl _ _ | with_reducible exact HB.out | with_reducible apply Below.drew | with_reducible apply bdN | with_reducible refine Below.alloc ?_ (by first | exact Nat.le_refl _ | with_reducible exact HB.out.size | omega | (simp; done) | (simp; omega) | (have := HB.out.size; simp at *; omega)) _ | with_reducible refine Below.setCell ?_ (by first | exact Nat.le_refl _ | with_reducible exact HB.out.size | omega | (simp; done) | (simp; omega) | (have := HB.out.size; simp at *; omega)) _)) b)
  have V2 := Lib.hid (VB.below (by repeat (first | with_reducible exact V2.out | with_reducible apply VB.drewN | with_reducible apply VB.drew | with_reducible apply VB.alloc)) b)
  have V3 := Lib.hid (VB.below (by repeat (first | with_reducible exact V3.out | with_reducible apply VB.drewN | with_reducible apply VB.drew | with_reducible apply VB.alloc)) b)
  have HR := Lib.hid (Rd.below (by repeat (first | with_reducible exact HR.out | with_reducible apply Rd.drewN | with_reducible apply Rd.drew | with_reducible apply Rd.alloc)) b)
  have K0 : Hid (TBox _ (w.heap.size) (⟨(i : Int), (j : Int), (q : Int)⟩)) := Lib.hid (TBox.below (by repeat (first | with_reducible exact K0.out | with_reducible apply TBox.drewN | with_reducible apply TBox.drew | (with_reducible refine TBox.newAt ?_ ?_ <;> first | (simp; done) | rfl) | with_reducible apply TBox.alloc)) b)
  try clear k0a k0b k0c k0d k0z
  have k0z := K0.out.lt
  obtain ⟨k0a, k0b, k0c, k0d⟩ := K0.out.cell
  clear b
  clear c0 c1
  go_wp2_with fail
  go_ret
  exact ⟨rfl, HB.out⟩

set_option maxRecDepth 100000 in
set_option maxHeartbeats 4000000 in
theorem impl_lok (k : Int) (l : List Cd) (p : Option Addr) (n cp : Nat) (w : World) (hn : l.length = n) (hl : n ≤ 1000000000) (hr : Rd w p (flat l)) :
    Calls Try.prog 30 #[.slice p n cp, .int .i64 k] w fun e w' => ∃ u, e = .returned (.tuple #[u, .bool (lokR l k).2]) ∧ OwnA3 w' w.heap.size u (lokR l k).1 ∧ Below w.heap.size w w' := by
  have HN := Lib.hid hn
  have b0 : Below w.heap.size w ((w.alloc (.cells #[.slice p n cp] 26)).alloc (.cells #[.int .i64 k] 3)) := ((Below.refl _ _).alloc (Nat.le_refl _) _).alloc (by simp) _
  have V2 : Hid (VB ((w.alloc (.cells #[.slice p n cp] 26)).alloc (.cells #[.int .i64 k] 3)) w.heap.size 26 #[.slice p n cp]) := Lib.hid ((VB.newAt rfl rfl).alloc _)
  have V3 : Hid (VB ((w.alloc (.cells #[.slice p n cp] 26)).alloc (.cells #[.int .i64 k] 3)) (w.heap.size + 1) 3 #[.int .i64 k]) := Lib.hid (VB.newAt (by simp) rfl)
  have HR0 := Lib.hid hr
  have HB := Lib.hid b0
  have HK := Lib.hid (fun w => is_kind k w)
  clear hn hr b0
  go_enter Try.func30, Try.ntmps30
  go_upto_region 1 with fail
  generalize (w.alloc (.cells #[.slice p n cp] 26)).alloc (.cells #[.int .i64 k] 3) = W at *
  have c0 := VB.at_ V2.out (j := 0) rfl
  go_wp2_with fail
  refine (impl_lin l p n cp _ HN.out hl (HR0.out.below HB.out)).mono ?_
  rintro e w1 ⟨u1, rfl, hu, b⟩
  have HU := Lib.hid hu
  have HUs := Lib.hid b.size
  have HWz := Lib.hid V3.out.lt
  have Sw1 := Lib.hid b.size
  have HB := Lib.hid (chain0 (w := w) (by repeat (first | with_reducible exact Below.refl _ _ | with_reducible exact HB.out | with_reducible apply Below.drew | with_reducible apply bdN | with_reducible refine Below.alloc ?_ (by first | exact Nat.le_refl _ | with_reducible exact HB.out.size | omega | (simp; done) | (simp; omega) | (have := HB.out.size; simp at *; omega)) _ | with_reducible refine Below.setCell ?_ (by first | exact Nat.le_refl _ | with_reducible exact HB.out.size | omega | (simp; done) | (simp; omega) | (have := HB.out.size; simp at *; omega)) _)) b)
  have V2 := Lib.hid (VB.below (by repeat (first | with_reducible exact V2.out | with_reducible apply VB.drewN | with_reducible apply VB.drew | with_reducible apply VB.alloc)) b)
  have V3 := Lib.hid (VB.below (by repeat (first | with_reducible exact V3.out | with_reducible apply VB.drewN | with_reducible apply VB.drew | with_reducible apply VB.alloc)) b)
  clear b
  clear hu c0
  have c1 := VB.at_ V3.out (j := 0) rfl
  cases hh : handB l
  · have HT := Lib.hid (lokR_no (l := l) (k := k) (by simp [hh]))
    have hl2 : (linR l).2 = false := by unfold linR; rw [if_neg (by simp [hh])]
    rw [hl2]
    clear hl2 hh
    go_wp2_with fail
    go_ret2
    exact ⟨_, ret_two (by rw [HT.out]), by rw [HT.out]; exact OwnA3.empty _ _ HB.out.size, by repeat (first | with_reducible exact Below.refl _ _ | with_reducible exact HB.out | with_reducible apply Below.drew | with_reducible apply bdN | with_reducible refine Below.alloc ?_ (by first | exact Nat.le_refl _ | with_reducible exact HB.out.size | omega | (simp; done) | (simp; omega) | (have := HB.out.size; simp at *; omega)) _ | with_reducible refine Below.setCell ?_ (by first | exact Nat.le_refl _ | with_reducible exact HB.out.size | omega | (simp; done) | (simp; omega) | (have := HB.out.size; simp at *; omega)) _)⟩
  · have hlr : linR l = (allL l n, true) := by unfold linR; rw [if_pos hh, HN.out]
    have HH := Lib.hid (handB_true.1 hh)
    rw [hlr] at HU ⊢
    by_cases hk : 1 ≤ k ∧ k ≤ 4
    · have HT := Lib.hid (show lokR l k = ((allL l n).filter (isK l k), true) by unfold lokR; rw [if_pos ⟨hh, hk⟩, HN.out])
      rw [decide_eq_true hk] at HK
      have hLn : (allL l n).length ≤ 1000 := by
        have h1 := HH.out.1
        have h2 := allL_len l n
        have h3 : n * l.length ≤ 27 * 27 := Nat.mul_le_mul (by have := HN.out; omega) h1
        omega
      have HD := Lib.hid (parting.delete_fun3d 65 (.pointer (some ⟨w.heap.size, 0, none⟩)) (.pointer (some ⟨w.heap.size + 1, 0, none⟩)) (fun x => !isK l k x) (Cap2 w.heap.size (w.heap.size + 1) p n cp l k) (allL l n) _ u1 w1 (by omega) HU.out ⟨V2.out, V3.out, HR0.out.below HB.out⟩
        (fun a b h hb => ⟨h.1.below hb, h.2.1.below hb, h.2.2.below hb⟩) (fun a b h hg => ⟨VB.marked h.1 hg (fun e => by have h1 := (HU.out.span _ e).1; have h2 := HWz.out; omega), VB.marked h.2.1 hg (fun e => by have h1 := (HU.out.span _ e).1; have h2 := HWz.out; omega), Rd.off h.2.2 hg (fun hx b1 o1 hp e => by
          obtain ⟨b2, o2, hp2, h1, _⟩ := HR0.out hx
          rw [hp] at hp2
          injection hp2 with hp2
          injection hp2 with e1 e2
          have h3 := (HU.out.span _ e).1
          have h4 := HWz.out
          omega)⟩) (fun _ _ => rfl) (fun x w' hx h => lok_fun l p n cp _ _ k x w' HN.out HH.out hx h))
      have HF : Hid ((allL l n).filter (fun x => !(fun x => !isK l k x) x) = (allL l n).filter (isK l k)) := Lib.hid (by congr 1; funext x; simp)
      rw [HF.out] at HD
      generalize allL l n = A at *
      clear hlr hh hk
      go_wp2_with fail
      refine (HK.out _).mono ?_
      rintro e w' ⟨rfl, rfl⟩
      go_wp2_with fail
      refine (HD.out).mono ?_
      rintro e w2 ⟨u2, rfl, ho2, hg2⟩
      have HO2 := Lib.hid ho2
      have HB2 : Hid (Below w.heap.size w w2) := Lib.hid (Below.grown HB.out hg2 HB.out.size (fun k hk => by have := (HU.out.span _ hk).1; have := HWz.out; omega))
      clear ho2 hg2
      go_wp2_with fail
      go_ret2
      exact ⟨_, ret_two (by rw [HT.out]), by rw [HT.out]; exact OwnA3.base HO2.out (by have := HWz.out; omega), HB2.out⟩
    · have HT := Lib.hid (lokR_no (l := l) (k := k) (fun h => hk h.2))
      rw [decide_eq_false hk] at HK
      clear hlr hh hk
      go_wp2_with fail
      refine (HK.out _).mono ?_
      rintro e w' ⟨rfl, rfl⟩
      go_wp2_with fail
      go_ret2
      exact ⟨_, ret_two (by rw [HT.out]), by rw [HT.out]; exact OwnA3.empty _ _ HB.out.size, by repeat (first | with_reducible exact Below.refl _ _ | with_reducible exact HB.out | with_reducible apply Below.drew | with_reducible apply bdN | with_reducible refine Below.alloc ?_ (by first | exact Nat.le_refl _ | with_reducible exact HB.out.size | omega | (simp; done) | (simp; omega) | (have := HB.out.size; simp at *; omega)) _ | with_reducible refine Below.setCell ?_ (by first | exact Nat.le_refl _ | with_reducible exact HB.out.size | omega | (simp; done) | (simp; omega) | (have := HB.out.size; simp at *; omega)) _)⟩

set_option maxRecDepth 100000 in
set_option maxHeartbeats 4000000 in
theorem spec_lok (k : Int) (l : List Cd) (p : Option Addr) (n cp : Nat) (w : World) (hn : l.length = n) (hl : n ≤ 1000000000) (hr : Rd w p (flat l)) :
    Calls Try.prog 29 #[.slice p n cp, .int .i64 k] w fun e w' => ∃ u, e = .returned (.tuple #[u, .bool (lokR l k).2]) ∧ OwnA3 w' w.heap.size u (lokR l k).1 ∧ Below w.heap.size w w' := by
  have HN := Lib.hid hn
  have HR0 := Lib.hid hr
  clear hn hr
  have HO0 := Lib.hid (OwnA3.empty w w.heap.size (Nat.le_refl _))
  have HB : Hid (Below w.heap.size w (w.alloc (.cells #[] 66))) := Lib.hid ((Below.refl _ _).alloc (Nat.le_refl _) _)
  go_enter Try.func29, Try.ntmps29
  go_upto_region 2 with fail
  generalize w.alloc (.cells #[] 66) = W at *
  obtain ⟨g, hg⟩ : ∃ g, w.heap.size = g := ⟨_, rfl⟩
  have HGe := Lib.hid hg
  rw [hg] at HO0
  try rw [hg]
  clear hg
  go_wp2_with fail
  refine (l2_hand l p n cp _ HN.out hl (HR0.out.below HB.out)).mono ?_
  rintro e w1 ⟨rfl, b⟩
  have Sw1 := Lib.hid b.size
  have HB := Lib.hid (chain0 (w := w) (by repeat (first | with_reducible exact Below.refl _ _ | with_reducible exact HB.out | with_reducible apply Below.drew | with_reducible apply bdN | with_reducible refine Below.alloc ?_ (by first | exact Nat.le_refl _ | with_reducible exact HB.out.size | omega | (simp; done) | (simp; omega) | (have := HB.out.size; simp at *; omega)) _ | with_reducible refine Below.setCell ?_ (by first | exact Nat.le_refl _ | with_reducible exact HB.out.size | omega | (simp; done) | (simp; omega) | (have := HB.out.size; simp at *; omega)) _)) b)
  have HO0 := Lib.hid (OwnA3.below (by repeat (first | with_reducible exact HO0.out | with_reducible apply OwnA3.drewN | with_reducible apply OwnA3.drew | with_reducible apply OwnA3.alloc)) b)
  clear b
  cases hh : handB l
  · have HT := Lib.hid (lokR_no (l := l) (k := k) (by simp [hh]))
    clear hh
    go_wp2_with fail
    go_ret2
    exact ⟨_, ret_two (by rw [HT.out]), by rw [HT.out, HGe.out]; exact HO0.out, HB.out⟩
  · have HH := Lib.hid (handB_true.1 hh)
    by_cases hk : 1 ≤ k ∧ k ≤ 4
    · have HT := Lib.hid (show lokR l k = ((allL l n).filter (isK l k), true) by unfold lokR; rw [if_pos ⟨hh, hk⟩, HN.out])
      have hLn : (allL l n).length ≤ 1000 := by
        have h1 := HH.out.1
        have h2 := allL_len l n
        have h3 : n * l.length ≤ 27 * 27 := Nat.mul_le_mul (by have := HN.out; omega) h1
        omega
      have HP := Lib.hid (fun a (ha : a ∈ allL l n) => line_parts HN.out HH.out.2.2 HH.out.2.1 ha)
      have HLi := Lib.hid (fun w h => l2_lines l p n cp w HN.out (by have := HH.out.1; have := HN.out; omega) h HH.out.2.1 HH.out.2.2)
      obtain ⟨k1, k2⟩ := hk
      generalize allL l n = L at *
      obtain ⟨m, hm⟩ : ∃ m, L.length = m := ⟨_, rfl⟩
      have HMm := Lib.hid hm
      rw [hm] at hLn
      clear hm hh
      go_wp2_with fail
      refine (in_yes k 1 4 _ k1 k2).mono ?_
      rintro e w' ⟨rfl, rfl⟩
      go_wp2_with fail
      refine (HLi.out _ (HR0.out.below HB.out)).mono ?_
      rintro e w3 ⟨u, rfl, hu, b⟩
      have HO0z := Lib.hid (HO0.out.span g rfl).2
      have HB1 := Lib.hid HB.out.size
      have Sw3 := Lib.hid b.size
      have HB := Lib.hid (chain0 (w := w) (by repeat (first | with_reducible exact Below.refl _ _ | with_reducible exact HB.out | with_reducible apply Below.drew | with_reducible apply bdN | with_reducible refine Below.alloc ?_ (by first | exact Nat.le_refl _ | with_reducible exact HB.out.size | omega | (simp; done) | (simp; omega) | (have := HB.out.size; simp at *; omega)) _ | with_reducible refine Below.setCell ?_ (by first | exact Nat.le_refl _ | with_reducible exact HB.out.size | omega | (simp; done) | (simp; omega) | (have := HB.out.size; simp at *; omega)) _)) b)
      have HO0 := Lib.hid (OwnA3.below (by repeat (first | with_reducible exact HO0.out | with_reducible apply OwnA3.drewN | with_reducible apply OwnA3.drew | with_reducible apply OwnA3.alloc)) b)
      clear b
      obtain ⟨pu, cu, rfl, hcu, _, hpu⟩ := hu.form
      rw [HMm.out] at hu hcu ⊢
      have HU := Lib.hid (OwnA3.base hu HB1.out)
      have HA : Hid (Ap (.slice (some ⟨g, 0, none⟩) 0 0) (.slice pu m cu)) := Lib.hid (fun q h1 h2 => by
        have h3 : g = q := by simpa [Value.ownBlock] using h1
        have := (hu.span q h2).1
        have := HO0z.out
        omega)
      clear hu hpu
      go_wp2_with fail
      go_loopw [6, 8] (fun o i wr => ∃ q : Nat, q ≤ m ∧ i = .int .i64 q ∧ Hid (OwnA3 wr w.heap.size o ((L.take q).filter (isK l k))) ∧ Hid (OwnA3 wr w.heap.size (.slice pu m cu) L) ∧ Hid (Ap o (.slice pu m cu)) ∧ Hid (Below w.heap.size w wr)) (fun _ i _ => m - (intOf i).toNat)
      case atStart => exact ⟨0, Nat.zero_le _, rfl, by rw [List.take_zero, HGe.out]; exact HO0, HU, HA, HB⟩
      case round =>
        clear HO0 HU HA HB
        obtain ⟨q, hq, rfl, HO, HU, HA, HB⟩ := hrel
        have m0 : (0 : Int) ≤ (q : Int) := by omega
        by_cases hlt : q < m
        · obtain ⟨bu, ou, a, rfl, hbu, ha, c0, c1, c2⟩ := HU.out.rd.aA3 (k := q) (by rw [HMm.out]; exact hlt)
          obtain ⟨i, j, r, x, y, z, rfl, hi, hj, hr, hx, hy, hz, hli⟩ := HP.out a (List.mem_of_getElem? ha)
          have hdb := line_dif hli
          have HE := Lib.hid (show (dif x y == k) = isK l k ⟨i, j, r⟩ by
            unfold isK
            rw [kindL_at hx hy, Int.toNat_of_nonneg (by omega)]
            rw [Bool.eq_iff_iff]; simp)
          have HTk := Lib.hid (take_snoc ha)
          have HAt := Lib.hid ha
          have HD := Lib.hid (fun w => l2_differ x y w)
          obtain ⟨d, hd⟩ : ∃ d, dif x y = d := ⟨_, rfl⟩
          rw [hd] at HD HE
          have hfl : ((L.take q).filter (isK l k)).length ≤ 1000 := Nat.le_trans (List.length_filter_le _ _) (by rw [List.length_take]; omega)
          have HFl := Lib.hid hfl
          obtain ⟨b, o, x', rfl, hb, hx', x0, x1, x2, x3⟩ := (HR0.out.below HB.out).card (k := i) (by rw [HN.out]; exact hi)
          rw [hx] at hx'; injection hx' with hx'; subst hx'
          obtain ⟨y0, y1, y2, y3⟩ := (HR0.out.below HB.out).at_ hy
          have m1 : (q : Int) < (m : Int) := by omega
          have m2 : (0 : Int) ≤ (i : Int) := by omega
          have m3 : (i : Int) < (n : Int) := by omega
          have m4 : (0 : Int) ≤ (j : Int) := by omega
          have m5 : (j : Int) < (n : Int) := by omega
          clear hx hy hz hli ha hdb hd hfl
          cases hs : (d == k)
          · have HF : Hid ((L.take (q + 1)).filter (isK l k) = (L.take q).filter (isK l k)) := Lib.hid (by rw [HTk.out, List.filter_append, List.filter_cons_of_neg (by rw [← HE.out, hs]; simp)]; simp)
            go_wp2_with fail
            have qc0 := fun d os => cell_regrown c0 d os
            have qc1 := fun d os => cell_regrown c1 d os
            have qc2 := fun d os => cell_regrown c2 d os
            have qx0 := fun d os => cell_regrown x0 d os
            have qx1 := fun d os => cell_regrown x1 d os
            have qx2 := fun d os => cell_regrown x2 d os
            have qx3 := fun d os => cell_regrown x3 d os
            have qy0 := fun d os => cell_regrown y0 d os
            have qy1 := fun d os => cell_regrown y1 d os
            have qy2 := fun d os => cell_regrown y2 d os
            have qy3 := fun d os => cell_regrown y3 d os
            refine wp_region_quiet_below (by kernel_rfl) (by kernel_rfl) ?_
            repeat (first | go_big_quiet_step ((go_at_call 61; with_reducible exact Calls.regrown_of (HD.out _))) | quiet_step ((go_at_call 61; with_reducible exact Calls.regrown_of (HD.out _))))
            refine wpQuiet_nil ?_
            intro w5 hw2
            have b : Below wr.heap.size wr w5 := by obtain ⟨r, hr⟩ := hw2; rw [hr]; exact below_regrown _ _ _
            clear hw2 qc0 qc1 qc2 qx0 qx1 qx2 qx3 qy0 qy1 qy2 qy3
            have Sw5 := Lib.hid b.size
            have HB := Lib.hid (chain0 (w := w) (by repeat (first | with_reducible exact Below.refl _ _ | with_reducible exact HB.out | with_reducible apply Below.drew | with_reducible apply bdN | with_reducible refine Below.alloc ?_ (by first | exact Nat.le_refl _ | with_reducible exact HB.out.size | omega | (simp; done) | (simp; omega) | (have := HB.out.size; simp at *; omega)) _ | with_reducible refine Below.setCell ?_ (by first | exact Nat.le_refl _ | with_reducible exact HB.out.size | omega | (simp; done) | (simp; omega) | (have := HB.out.size; simp at *; omega)) _)) b)
            have HO := Lib.hid (OwnA3.below (by repeat (first | with_reducible exact HO.out | with_reducible apply OwnA3.drewN | with_reducible apply OwnA3.drew | with_reducible apply OwnA3.alloc)) b)
            have HU := Lib.hid (OwnA3.below (by repeat (first | with_reducible exact HU.out | with_reducible apply OwnA3.drewN | with_reducible apply OwnA3.drew | with_reducible apply OwnA3.alloc)) b)
            clear b
            clear c0 c1 c2 x0 x1 x2 x3 y0 y1 y2 y3
            go_wp2_with fail
            go_roundw
            case rel => exact ⟨q + 1, by omega, by go_num, by rw [HF.out]; exact HO, HU, HA, HB⟩
            case measure => simp [intOf]; omega
          · have HF : Hid ((L.take (q + 1)).filter (isK l k) = (L.take q).filter (isK l k) ++ [⟨i, j, r⟩]) := Lib.hid (by rw [HTk.out, List.filter_append, List.filter_cons_of_pos (by rw [← HE.out, hs])]; simp)
            go_wp2_with fail
            have qc0 := fun d os => cell_regrown c0 d os
            have qc1 := fun d os => cell_regrown c1 d os
            have qc2 := fun d os => cell_regrown c2 d os
            have qx0 := fun d os => cell_regrown x0 d os
            have qx1 := fun d os => cell_regrown x1 d os
            have qx2 := fun d os => cell_regrown x2 d os
            have qx3 := fun d os => cell_regrown x3 d os
            have qy0 := fun d os => cell_regrown y0 d os
            have qy1 := fun d os => cell_regrown y1 d os
            have qy2 := fun d os => cell_regrown y2 d os
            have qy3 := fun d os => cell_regrown y3 d os
            refine wp_region_quiet_below (by kernel_rfl) (by kernel_rfl) ?_
            repeat (first | go_big_quiet_step ((go_at_call 61; with_reducible exact Calls.regrown_of (HD.out _))) | quiet_step ((go_at_call 61; with_reducible exact Calls.regrown_of (HD.out _))))
            refine wpQuiet_nil ?_
            intro w5 hw2
            have b : Below wr.heap.size wr w5 := by obtain ⟨r, hr⟩ := hw2; rw [hr]; exact below_regrown _ _ _
            clear hw2 qc0 qc1 qc2 qx0 qx1 qx2 qx3 qy0 qy1 qy2 qy3
            have Sw5 := Lib.hid b.size
            have HB := Lib.hid (chain0 (w := w) (by repeat (first | with_reducible exact Below.refl _ _ | with_reducible exact HB.out | with_reducible apply Below.drew | with_reducible apply bdN | with_reducible refine Below.alloc ?_ (by first | exact Nat.le_refl _ | with_reducible exact HB.out.size | omega | (simp; done) | (simp; omega) | (have := HB.out.size; simp at *; omega)) _ | with_reducible refine Below.setCell ?_ (by first | exact Nat.le_refl _ | with_reducible exact HB.out.size | omega | (simp; done) | (simp; omega) | (have := HB.out.size; simp at *; omega)) _)) b)
            have HO := Lib.hid (OwnA3.below (by repeat (first | with_reducible exact HO.out | with_reducible apply OwnA3.drewN | with_reducible apply OwnA3.drew | with_reducible apply OwnA3.alloc)) b)
            have HU := Lib.hid (OwnA3.below (by repeat (first | with_reducible exact HU.out | with_reducible apply OwnA3.drewN | with_reducible apply OwnA3.drew | with_reducible apply OwnA3.alloc)) b)
            clear b
            clear c0 c1 c2 x0 x1 x2 x3 y0 y1 y2 y3
            obtain ⟨bu', ou', a', e1, _, ha', c0, c1, c2⟩ := HU.out.rd.aA3 (k := q) (by rw [HMm.out]; exact hlt)
            injection e1 with e1
            injection e1 with e1 e2
            subst e1; subst e2
            rw [HAt.out] at ha'
            injection ha' with ha'
            subst ha'
            go_wp2_with (at_builtin; refine append_A3_at rfl (.tmp 46) (.tmp 51) rfl w.heap.size _ ((L.take q).filter (isK l k)) ⟨(i : Int), (j : Int), (r : Int)⟩ _ _ rfl rfl rfl HO.out (by have := HFl.out; omega) HB.out.size ?_; intro v1 w6 hO1 hB1 hG1 hA1)
            have hU1 := OwnA3.past HU.out hG1 HA.out
            have hA2 := Ap.next HA.out (fun g hg => Nat.lt_of_lt_of_le (HU.out.span g hg).2 (Nat.le_succ _)) hA1
            rw [← HF.out] at hO1
            go_roundw
            case rel => exact ⟨q + 1, by omega, by go_num, hO1, hU1, hA2, HB.out.trans hB1⟩
            case measure => simp [intOf]; omega
        · obtain rfl : q = m := by omega
          have HF : Hid (L.take q = L) := Lib.hid (by rw [← HMm.out, List.take_length])
          go_wp2_with fail
          go_ret2
          exact ⟨_, ret_two (by rw [HT.out]), by rw [HT.out]; rw [HF.out] at HO; exact HO.out, HB.out⟩
    · have HT := Lib.hid (lokR_no (l := l) (k := k) (fun h => hk h.2))
      have hno : k < 1 ∨ 4 < k := by omega
      replace hno := Lib.hid hno
      clear hh hk
      go_wp2_with fail
      refine (in_no k 1 4 _ hno.out).mono ?_
      rintro e w' ⟨rfl, rfl⟩
      go_wp2_with fail
      go_ret2
      exact ⟨_, ret_two (by rw [HT.out]), by rw [HT.out, HGe.out]; exact HO0.out, HB.out⟩
end Go.Proofs.Ytjmlefcmhjodeaa.others
