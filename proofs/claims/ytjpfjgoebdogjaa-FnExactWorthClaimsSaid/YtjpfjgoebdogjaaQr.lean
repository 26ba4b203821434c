/- Laying cards: the model's l4Lay. -/
import Derived.Test.YtjpfjgoebdogjaaQl
import Derived.Test.YtjpfjgoebdogjaaPu
namespace Go.Proofs.Ytjpfjgoebdogjaa.deal
open Go.RowKit
open cards
set_option linter.unusedVariables false

set_option maxHeartbeats 400000 in
theorem l1_least (a b : Int) (w : World) :
    Calls Try.prog 56 #[.int .i64 a, .int .i64 b] w fun e w' => e = .returned (.int .i64 (if a < b then a else b)) ∧ Below w.heap.size w w' := by
  by_cases h : a < b
  · have HT := Lib.hid (show (if a < b then a else b) = a from if_pos h)
    rw [HT.out]
    go_enter Try.func56, Try.ntmps56
    go_wp2
    go_ret
    exact ⟨rfl, by repeat (first | with_reducible exact Below.refl _ _ | with_reducible exact HB.out | with_reducible apply Below.drew | with_reducible apply bdN | with_reducible refine Below.alloc ?_ (by first | exact Nat.le_refl _ | with_reducible exact HB.out.size | omega | (simp; done) | (simp; omega) | (have := HB.out.size; simp at *; omega)) _ | with_reducible refine Below.setCell ?_ (by first | exact Nat.le_refl _ | with_reducible exact HB.out.size | omega | (simp; done) | (simp; omega) | (have := HB.out.size; simp at *; omega)) _)⟩
  · have HT := Lib.hid (show (if a < b then a else b) = b from if_neg h)
    rw [HT.out]
    go_enter Try.func56, Try.ntmps56
    go_wp2
    go_ret
    exact ⟨rfl, by repeat (first | with_reducible exact Below.refl _ _ | with_reducible exact HB.out | with_reducible apply Below.drew | with_reducible apply bdN | with_reducible refine Below.alloc ?_ (by first | exact Nat.le_refl _ | with_reducible exact HB.out.size | omega | (simp; done) | (simp; omega) | (have := HB.out.size; simp at *; omega)) _ | with_reducible refine Below.setCell ?_ (by first | exact Nat.le_refl _ | with_reducible exact HB.out.size | omega | (simp; done) | (simp; omega) | (have := HB.out.size; simp at *; omega)) _)⟩
set_option maxHeartbeats 400000 in
theorem l1_most (a b : Int) (w : World) :
    Calls Try.prog 76 #[.int .i64 a, .int .i64 b] w fun e w' => e = .returned (.int .i64 (if b < a then a else b)) ∧ Below w.heap.size w w' := by
  by_cases h : b < a
  · have HT := Lib.hid (show (if b < a then a else b) = a from if_pos h)
    rw [HT.out]
    go_enter Try.func76, Try.ntmps76
    go_wp2
    go_ret
    exact ⟨rfl, by repeat (first | with_reducible exact Below.refl _ _ | with_reducible exact HB.out | with_reducible apply Below.drew | with_reducible apply bdN | with_reducible refine Below.alloc ?_ (by first | exact Nat.le_refl _ | with_reducible exact HB.out.size | omega | (simp; done) | (simp; omega) | (have := HB.out.size; simp at *; omega)) _ | with_reducible refine Below.setCell ?_ (by first | exact Nat.le_refl _ | with_reducible exact HB.out.size | omega | (simp; done) | (simp; omega) | (have := HB.out.size; simp at *; omega)) _)⟩
  · have HT := Lib.hid (show (if b < a then a else b) = b from if_neg h)
    rw [HT.out]
    go_enter Try.func76, Try.ntmps76
    go_wp2
    go_ret
    exact ⟨rfl, by repeat (first | with_reducible exact Below.refl _ _ | with_reducible exact HB.out | with_reducible apply Below.drew | with_reducible apply bdN | with_reducible refine Below.alloc ?_ (by first | exact Nat.le_refl _ | with_reducible exact HB.out.size | omega | (simp; done) | (simp; omega) | (have := HB.out.size; simp at *; omega)) _ | with_reducible refine Below.setCell ?_ (by first | exact Nat.le_refl _ | with_reducible exact HB.out.size | omega | (simp; done) | (simp; omega) | (have := HB.out.size; simp at *; omega)) _)⟩

set_option maxRecDepth 100000 in
set_option maxHeartbeats 4000000 in
theorem l4_lay (s : Int) (a : Nat) (k : Int) (l : List Cd) (p : Option Addr) (n cp : Nat) (w : World) (hs : 0 ≤ s ∧ s ≤ 65535) (ha : a ≤ 81) (hk : 0 ≤ k ∧ k ≤ 1000) (hn : l.length = n) (hl : n ≤ 1000) (hr : Rd w p (flat l)) (h0 : p = none → cp = 0) :
    Calls Try.prog 53 #[dval s a (.slice p n cp), .int .i64 k] w fun e w' => ∃ u, e = .returned (dval s (layD ⟨s, a, l⟩ k).nx u) ∧ Own w' w.heap.size u (layD ⟨s, a, l⟩ k).l ∧ Below w.heap.size w w' := by
  have HS := Lib.hid hs
  have HN := Lib.hid hn
  have HR := Lib.hid hr
  have HR0 := Lib.hid hr
  have H0 := Lib.hid h0
  have HPl := Lib.hid (pile_len s)
  obtain ⟨k0, k1⟩ := hk
  have he := endD_bd (d := ⟨s, (a : Int), l⟩) (n := k) (by simp only; omega) k0
  simp only at he
  obtain ⟨b0, hb⟩ : ∃ b0 : Nat, endD ⟨s, (a : Int), l⟩ k = (b0 : Int) := ⟨(endD ⟨s, (a : Int), l⟩ k).toNat, by omega⟩
  have HNx := Lib.hid (show (layD ⟨s, (a : Int), l⟩ k).nx = (b0 : Int) from hb)
  have HLl := Lib.hid (show (layD ⟨s, (a : Int), l⟩ k).l = l ++ ((pile s).drop a).take (b0 - a) by show _ ++ ((pile s).drop ((a : Int).toNat)).take ((endD ⟨s, (a : Int), l⟩ k).toNat - ((a : Int).toNat)) = _; rw [hb]; rfl)
  rw [hb] at he
  have m0 : (a : Int) ≤ (b0 : Int) := he.1
  have m1 : (b0 : Int) ≤ 81 := he.2.1
  have m2 : (0 : Int) ≤ (a : Int) := by omega
  have HE := Lib.hid (show (if 81 < (a : Int) + k then 81 else (a : Int) + k) = (b0 : Int) by rw [← hb]; rfl)
  have HLe := Lib.hid (fun w => l1_least 81 ((a : Int) + k) w)
  rw [HE.out] at HLe
  rw [HNx.out, HLl.out]
  have HAB := Lib.hid (show a ≤ b0 by omega)
  have hwr : IntKind.i64.wrap ((a : Int) + k) = (a : Int) + k := IntWalk.i64_in _ (by omega)
  clear hs hn hr h0 he hb
  go_enter Try.func53, Try.ntmps53
  go_upto_region 1 with fail
  obtain ⟨w0, ew, b⟩ : ∃ wOPN : World, wOPN = ((w.alloc (Dv.mk 31 s a (.slice p n cp)).obj).alloc (Dv.mk 31 0 0 (.slice none 0 0)).obj) ∧ Below (((w.alloc (Dv.mk 31 s a (.slice p n cp)).obj).alloc (Dv.mk 31 0 0 (.slice none 0 0)).obj)).heap.size (((w.alloc (Dv.mk 31 s a (.slice p n cp)).obj).alloc (Dv.mk 31 0 0 (.slice none 0 0)).obj)) wOPN := ⟨_, rfl, Below.refl _ _⟩
  rw [← ew]
  clear ew
  have Sw0 := Lib.hid b.size
  have HB := Lib.hid (chain0 (w := w) (by repeat (first | with_reducible exact Below.refl _ _ | with_reducible exact HB.out | with_reducible apply Below.drew | with_reducible apply bdN | with_reducible refine Below.alloc ?_ (by first | exact Nat.le_refl _ | with_reducible exact HB.out.size | omega | (simp; done) | (simp; omega) | (have := HB.out.size; simp at *; omega)) _ | with_reducible refine Below.setCell ?_ (by first | exact Nat.le_refl _ | with_reducible exact HB.out.size | omega | (simp; done) | (simp; omega) | (have := HB.out.size; simp at *; omega)) _)) b)
  have HR := Lib.hid (Rd.below (by repeat (first | with_reducible exact HR.out | with_reducible apply Rd.drewN | with_reducible apply Rd.drew | with_reducible apply Rd.alloc)) b)
  have K0 : Hid (DBox _ (w.heap.size) (⟨31, s, a, .slice p n cp⟩)) := Lib.hid (DBox.below (by repeat (first | with_reducible exact K0.out | with_reducible apply DBox.drewN | with_reducible apply DBox.drew | (with_reducible refine DBox.newAt ?_ ?_ <;> first | (simp; done) | rfl) | with_reducible apply DBox.alloc)) b)
  have K4 : Hid (DBox _ (w.heap.size + 1) (⟨31, 0, 0, .slice none 0 0⟩)) := Lib.hid (DBox.below (by repeat (first | with_reducible exact K4.out | with_reducible apply DBox.drewN | with_reducible apply DBox.drew | (with_reducible refine DBox.newAt ?_ ?_ <;> first | (simp; done) | rfl) | with_reducible apply DBox.alloc)) b)
  try clear k0a k0b k0c k0d k0z
  have k0z := K0.out.lt
  obtain ⟨k0a, k0b, k0c, k0d⟩ := K0.out.cell
  try clear k4a k4b k4c k4d k4z
  have k4z := K4.out.lt
  obtain ⟨k4a, k4b, k4c, k4d⟩ := K4.out.cell
  try clear k4f
  have k4f := K4.out.frozen
  clear b
  have HPf := Lib.hid (fun w => l4_pile s w HS.out)
  go_cut [5, 6] (fun s5 s6 wx => ∃ g c, s5 = .slice (some ⟨g, 0, none⟩) 81 c ∧ s6 = .int .i64 b0 ∧ 81 ≤ c ∧ Hid (Rd wx (some ⟨g, 0, none⟩) (flat (pile s))) ∧ Hid (Below w.heap.size w wx) ∧ Hid (DBox wx w.heap.size ⟨31, s, a, .slice p n cp⟩) ∧ Hid (DBox wx (w.heap.size + 1) ⟨31, 0, 0, .slice none 0 0⟩))
  case first =>
    go_region_held3 (fun w' => w'.cell? ⟨w.heap.size, 0, none⟩ = some (.int .i64 s) ∧ w'.cell? ⟨w.heap.size, 1, none⟩ = some (.int .i64 (a : Int)) ∧ w'.cell? ⟨w.heap.size, 2, none⟩ = some (.slice p n cp)) (first | exact ⟨k0a, k0b, k0c⟩ | go_keep) (first
      | (go_at_call 72; refine (HPf.out _).mono ?_; rintro e wq ⟨u, rfl, hu, b⟩; obtain ⟨pu, cu, rfl, hcu, ru⟩ := hu.form; rw [HPl.out] at hu hcu ⊢; have HB := Lib.hid (chain0 (w := w) (by repeat (first | with_reducible exact Below.refl _ _ | with_reducible exact HB.out | with_reducible apply Below.drew | with_reducible apply bdN | with_reducible refine Below.alloc ?_ (by first | exact Nat.le_refl _ | with_reducible exact HB.out.size | omega | (simp; done) | (simp; omega) | (have := HB.out.size; simp at *; omega)) _ | with_reducible refine Below.setCell ?_ (by first | exact Nat.le_refl _ | with_reducible exact HB.out.size | omega | (simp; done) | (simp; omega) | (have := HB.out.size; simp at *; omega)) _)) b); have K0 : Hid (DBox _ (w.heap.size) (⟨31, s, a, .slice p n cp⟩)) := Lib.hid (DBox.below (by repeat (first | with_reducible exact K0.out | with_reducible apply DBox.drewN | with_reducible apply DBox.drew | (with_reducible refine DBox.newAt ?_ ?_ <;> first | (simp; done) | rfl) | with_reducible apply DBox.alloc)) b); have K4 : Hid (DBox _ (w.heap.size + 1) (⟨31, 0, 0, .slice none 0 0⟩)) := Lib.hid (DBox.below (by repeat (first | with_reducible exact K4.out | with_reducible apply DBox.drewN | with_reducible apply DBox.drew | (with_reducible refine DBox.newAt ?_ ?_ <;> first | (simp; done) | rfl) | with_reducible apply DBox.alloc)) b); obtain ⟨k0a, k0b, k0c, k0d⟩ := K0.out.cell; have k0z := K0.out.lt; obtain ⟨k4a, k4b, k4c, k4d⟩ := K4.out.cell; have k4z := K4.out.lt; have k4f := K4.out.frozen; have R1 := Lib.hid ru; clear b hu ru)
      | (go_at_call 56; refine (HLe.out _).mono ?_; rintro e wq ⟨rfl, b⟩; have HB := Lib.hid (chain0 (w := w) (by repeat (first | with_reducible exact Below.refl _ _ | with_reducible exact HB.out | with_reducible apply Below.drew | with_reducible apply bdN | with_reducible refine Below.alloc ?_ (by first | exact Nat.le_refl _ | with_reducible exact HB.out.size | omega | (simp; done) | (simp; omega) | (have := HB.out.size; simp at *; omega)) _ | with_reducible refine Below.setCell ?_ (by first | exact Nat.le_refl _ | with_reducible exact HB.out.size | omega | (simp; done) | (simp; omega) | (have := HB.out.size; simp at *; omega)) _)) b); have K0 : Hid (DBox _ (w.heap.size) (⟨31, s, a, .slice p n cp⟩)) := Lib.hid (DBox.below (by repeat (first | with_reducible exact K0.out | with_reducible apply DBox.drewN | with_reducible apply DBox.drew | (with_reducible refine DBox.newAt ?_ ?_ <;> first | (simp; done) | rfl) | with_reducible apply DBox.alloc)) b); have K4 : Hid (DBox _ (w.heap.size + 1) (⟨31, 0, 0, .slice none 0 0⟩)) := Lib.hid (DBox.below (by repeat (first | with_reducible exact K4.out | with_reducible apply DBox.drewN | with_reducible apply DBox.drew | (with_reducible refine DBox.newAt ?_ ?_ <;> first | (simp; done) | rfl) | with_reducible apply DBox.alloc)) b); obtain ⟨k0a, k0b, k0c, k0d⟩ := K0.out.cell; have k0z := K0.out.lt; obtain ⟨k4a, k4b, k4c, k4d⟩ := K4.out.cell; have k4z := K4.out.lt; have k4f := K4.out.frozen; (first | (have R1 := Lib.hid (Rd.below (by repeat (first | with_reducible exact R1.out | with_reducible apply Rd.drewN | with_reducible apply Rd.drew | with_reducible apply Rd.alloc)) b)) | skip); clear b))
    all_goals
      go_wp2_with fail
      go_meet
      case rel => exact ⟨_, _, rfl, rfl, hcu, Lib.hid (by repeat (first | with_reducible exact R1.out | with_reducible apply Rd.drewN | with_reducible apply Rd.drew | with_reducible apply Rd.alloc)), Lib.hid (by repeat (first | with_reducible exact Below.refl _ _ | with_reducible exact HB.out | with_reducible apply Below.drew | with_reducible apply bdN | with_reducible refine Below.alloc ?_ (by first | exact Nat.le_refl _ | with_reducible exact HB.out.size | omega | (simp; done) | (simp; omega) | (have := HB.out.size; simp at *; omega)) _ | with_reducible refine Below.setCell ?_ (by first | exact Nat.le_refl _ | with_reducible exact HB.out.size | omega | (simp; done) | (simp; omega) | (have := HB.out.size; simp at *; omega)) _)), Lib.hid (by repeat (first | with_reducible exact K0.out | with_reducible apply DBox.drewN | with_reducible apply DBox.drew)), Lib.hid (by repeat (first | with_reducible exact K4.out | with_reducible apply DBox.drewN | with_reducible apply DBox.drew))⟩
  case rest =>
    clear hwr HB HR K0 K4 k0a k0b k0c k0d k0z k4a k4b k4c k4d k4z k4f HPf HLe
    obtain ⟨g, c, rfl, rfl, hc81, HP, HB, K0, K4⟩ := hcut
    obtain ⟨k0a, k0b, k0c, k0d⟩ := K0.out.cell
    have k0z := K0.out.lt
    obtain ⟨k4a, k4b, k4c, k4d⟩ := K4.out.cell
    have k4z := K4.out.lt
    have k4f := K4.out.frozen
    have HR := Lib.hid (Rd.below HR0.out HB.out)
    have HC81 := Lib.hid hc81
    have m3 : (b0 : Int) ≤ (c : Int) := by omega
    have m4 : (a : Int) ≤ (c : Int) := by omega
    have HPlen := Lib.hid (show (((pile s).drop a).take (b0 - a)).length = b0 - a by have := HPl.out; simp; omega)
    obtain ⟨m, hm⟩ : ∃ m, (l ++ ((pile s).drop a).take (b0 - a)).length = m := ⟨_, rfl⟩
    have HMm := Lib.hid hm
    clear hm hc81
    by_cases hca : c ≤ a
    · have RDD : ∀ w' : World, Rd w' (some ⟨g, 0, none⟩) (flat (pile s)) → Rd w' (some ⟨g, 0, none⟩) (flat (((pile s).drop a).take (b0 - a))) := fun w' h => by
        have := HC81.out
        rw [show b0 - a = 0 by omega, List.take_zero]
        intro hp; simp [flat] at hp
      have RDh := Lib.hid RDD
      have hci : (c : Int) ≤ (a : Int) := by omega
      clear RDD
      go_wp2_with fail
      go_region_held3 (fun w' => w'.cell? ⟨w.heap.size, 0, none⟩ = some (.int .i64 s) ∧ w'.cell? ⟨w.heap.size, 1, none⟩ = some (.int .i64 (a : Int)) ∧ w'.cell? ⟨w.heap.size, 2, none⟩ = some (.slice p n cp)) (first | exact ⟨k0a, k0b, k0c⟩ | go_keep) (first
        | (go_at_call 51; refine (l2_own l p n cp _ HN.out (by omega) (by repeat (first | with_reducible exact HR.out | with_reducible apply Rd.drewN | with_reducible apply Rd.drew | with_reducible apply Rd.alloc)) H0.out).mono ?_; rintro e w5 ⟨u, rfl, hu, b⟩; have HU : Hid (OwnN w5 (w.heap.size + 2) u l) := Lib.hid (hu.base (by simp; omega)); have HB := Lib.hid (chain0 (w := w) (by repeat (first | with_reducible exact Below.refl _ _ | with_reducible exact HB.out | with_reducible apply Below.drew | with_reducible apply bdN | with_reducible refine Below.alloc ?_ (by first | exact Nat.le_refl _ | with_reducible exact HB.out.size | omega | (simp; done) | (simp; omega) | (have := HB.out.size; simp at *; omega)) _ | with_reducible refine Below.setCell ?_ (by first | exact Nat.le_refl _ | with_reducible exact HB.out.size | omega | (simp; done) | (simp; omega) | (have := HB.out.size; simp at *; omega)) _)) b); have HP := Lib.hid (Rd.below (by repeat (first | with_reducible exact HP.out | with_reducible apply Rd.drewN | with_reducible apply Rd.drew | with_reducible apply Rd.alloc)) b); have K0 : Hid (DBox _ (w.heap.size) (⟨31, s, a, .slice p n cp⟩)) := Lib.hid (DBox.below (by repeat (first | with_reducible exact K0.out | with_reducible apply DBox.drewN | with_reducible apply DBox.drew | (with_reducible refine DBox.newAt ?_ ?_ <;> first | (simp; done) | rfl) | with_reducible apply DBox.alloc)) b); have K4 : Hid (DBox _ (w.heap.size + 1) (⟨31, 0, 0, .slice none 0 0⟩)) := Lib.hid (DBox.below (by repeat (first | with_reducible exact K4.out | with_reducible apply DBox.drewN | with_reducible apply DBox.drew | (with_reducible refine DBox.newAt ?_ ?_ <;> first | (simp; done) | rfl) | with_reducible apply DBox.alloc)) b); obtain ⟨k0a, k0b, k0c, k0d⟩ := K0.out.cell; have k0z := K0.out.lt; obtain ⟨k4a, k4b, k4c, k4d⟩ := K4.out.cell; have k4z := K4.out.lt; have k4f := K4.out.frozen; clear hu b)
        | (refine step_append_cards rfl (.tmp 20) (.tmp 25) rfl (w.heap.size + 2) u l (((pile s).drop a).take (b0 - a)) _ _ _ rfl rfl ?_ ?_ ?_ ?_ ?_ ?_ ?_
           · first | exact HU.out | exact HU.out.drew
           · first | exact HPlen.out | (rw [HPlen.out]; simp)
           · exact RDh.out _ HP.out
           · intro h; cases h
           · have := HN.out; omega
           · have := k4z; omega
           intro v2 w7 hO2 hB2 hG2
           obtain ⟨pv, cv, hv2, _, _⟩ := hO2.form
           rw [HMm.out] at hv2
           subst hv2
           have HO2 := Lib.hid hO2
           have HB := Lib.hid (HB.out.trans (hB2.mono (Nat.le_add_right _ 2)))
           have K0 := Lib.hid (DBox.under K0.out (Nat.lt_add_of_pos_right (by omega)) hB2)
           have K4 := Lib.hid (DBox.under K4.out (Nat.lt_succ_self _) hB2)
           obtain ⟨k0a, k0b, k0c, k0d⟩ := K0.out.cell
           have k0z := K0.out.lt
           obtain ⟨k4a, k4b, k4c, k4d⟩ := K4.out.cell
           have k4z := K4.out.lt
           have k4f := K4.out.frozen
           clear hO2 hB2 hG2))
      all_goals
        go_wp2_with fail
        try simp only [Exit.inBlock, Exit.then]
        refine bodyPost_ret (res_deal Try.results53 rfl (K4.out.set_ _ _ _)) rfl ?_
        exact ⟨_, rfl, (Own.far (Own.far (Own.far HO2.out.1 (Nat.lt_succ_self _) _) (Nat.lt_succ_self _) _) (Nat.lt_succ_self _) _).base (show w.heap.size ≤ w.heap.size + 2 by omega), by repeat (first | with_reducible exact Below.refl _ _ | with_reducible exact HB.out | with_reducible apply Below.drew | with_reducible apply bdN | with_reducible refine Below.alloc ?_ (by first | exact Nat.le_refl _ | with_reducible exact HB.out.size | omega | (simp; done) | (simp; omega) | (have := HB.out.size; simp at *; omega)) _ | with_reducible refine Below.setCell ?_ (by first | exact Nat.le_refl _ | with_reducible exact HB.out.size | omega | (simp; done) | (simp; omega) | (have := HB.out.size; simp at *; omega)) _)⟩
    · have RDD : ∀ w' : World, Rd w' (some ⟨g, 0, none⟩) (flat (pile s)) → Rd w' (some ⟨g, a * 4, none⟩) (flat (((pile s).drop a).take (b0 - a))) := fun w' h => by
        have := (h.drop a).take (b0 - a)
        rwa [Nat.zero_add] at this
      have RDh := Lib.hid RDD
      have hcn : ¬ c = a := by omega
      clear RDD
      go_wp2_with fail
      go_region_held3 (fun w' => w'.cell? ⟨w.heap.size, 0, none⟩ = some (.int .i64 s) ∧ w'.cell? ⟨w.heap.size, 1, none⟩ = some (.int .i64 (a : Int)) ∧ w'.cell? ⟨w.heap.size, 2, none⟩ = some (.slice p n cp)) (first | exact ⟨k0a, k0b, k0c⟩ | go_keep) (first
        | (go_at_call 51; refine (l2_own l p n cp _ HN.out (by omega) (by repeat (first | with_reducible exact HR.out | with_reducible apply Rd.drewN | with_reducible apply Rd.drew | with_reducible apply Rd.alloc)) H0.out).mono ?_; rintro e w5 ⟨u, rfl, hu, b⟩; have HU : Hid (OwnN w5 (w.heap.size + 2) u l) := Lib.hid (hu.base (by simp; omega)); have HB := Lib.hid (chain0 (w := w) (by repeat (first | with_reducible exact Below.refl _ _ | with_reducible exact HB.out | with_reducible apply Below.drew | with_reducible apply bdN | with_reducible refine Below.alloc ?_ (by first | exact Nat.le_refl _ | with_reducible exact HB.out.size | omega | (simp; done) | (simp; omega) | (have := HB.out.size; simp at *; omega)) _ | with_reducible refine Below.setCell ?_ (by first | exact Nat.le_refl _ | with_reducible exact HB.out.size | omega | (simp; done) | (simp; omega) | (have := HB.out.size; simp at *; omega)) _)) b); have HP := Lib.hid (Rd.below (by repeat (first | with_reducible exact HP.out | with_reducible apply Rd.drewN | with_reducible apply Rd.drew | with_reducible apply Rd.alloc)) b); have K0 : Hid (DBox _ (w.heap.size) (⟨31, s, a, .slice p n cp⟩)) := Lib.hid (DBox.below (by repeat (first | with_reducible exact K0.out | with_reducible apply DBox.drewN | with_reducible apply DBox.drew | (with_reducible refine DBox.newAt ?_ ?_ <;> first | (simp; done) | rfl) | with_reducible apply DBox.alloc)) b); have K4 : Hid (DBox _ (w.heap.size + 1) (⟨31, 0, 0, .slice none 0 0⟩)) := Lib.hid (DBox.below (by repeat (first | with_reducible exact K4.out | with_reducible apply DBox.drewN | with_reducible apply DBox.drew | (with_reducible refine DBox.newAt ?_ ?_ <;> first | (simp; done) | rfl) | with_reducible apply DBox.alloc)) b); obtain ⟨k0a, k0b, k0c, k0d⟩ := K0.out.cell; have k0z := K0.out.lt; obtain ⟨k4a, k4b, k4c, k4d⟩ := K4.out.cell; have k4z := K4.out.lt; have k4f := K4.out.frozen; clear hu b)
        | (refine step_append_cards rfl (.tmp 20) (.tmp 25) rfl (w.heap.size + 2) u l (((pile s).drop a).take (b0 - a)) _ _ _ rfl rfl ?_ ?_ ?_ ?_ ?_ ?_ ?_
           · first | exact HU.out | exact HU.out.drew
           · first | exact HPlen.out | (rw [HPlen.out]; simp)
           · exact RDh.out _ HP.out
           · intro h; cases h
           · have := HN.out; omega
           · have := k4z; omega
           intro v2 w7 hO2 hB2 hG2
           obtain ⟨pv, cv, hv2, _, _⟩ := hO2.form
           rw [HMm.out] at hv2
           subst hv2
           have HO2 := Lib.hid hO2
           have HB := Lib.hid (HB.out.trans (hB2.mono (Nat.le_add_right _ 2)))
           have K0 := Lib.hid (DBox.under K0.out (Nat.lt_add_of_pos_right (by omega)) hB2)
           have K4 := Lib.hid (DBox.under K4.out (Nat.lt_succ_self _) hB2)
           obtain ⟨k0a, k0b, k0c, k0d⟩ := K0.out.cell
           have k0z := K0.out.lt
           obtain ⟨k4a, k4b, k4c, k4d⟩ := K4.out.cell
           have k4z := K4.out.lt
           have k4f := K4.out.frozen
           clear hO2 hB2 hG2))
      all_goals
        go_wp2_with fail
        try simp only [Exit.inBlock, Exit.then]
        refine bodyPost_ret (res_deal Try.results53 rfl (K4.out.set_ _ _ _)) rfl ?_
        exact ⟨_, rfl, (Own.far (Own.far (Own.far HO2.out.1 (Nat.lt_succ_self _) _) (Nat.lt_succ_self _) _) (Nat.lt_succ_self _) _).base (show w.heap.size ≤ w.heap.size + 2 by omega), by repeat (first | with_reducible exact Below.refl _ _ | with_reducible exact HB.out | with_reducible apply Below.drew | with_reducible apply bdN | with_reducible refine Below.alloc ?_ (by first | exact Nat.le_refl _ | with_reducible exact HB.out.size | omega | (simp; done) | (simp; omega) | (have := HB.out.size; simp at *; omega)) _ | with_reducible refine Below.setCell ?_ (by first | exact Nat.le_refl _ | with_reducible exact HB.out.size | omega | (simp; done) | (simp; omega) | (have := HB.out.size; simp at *; omega)) _)⟩
end Go.Proofs.Ytjpfjgoebdogjaa.deal
