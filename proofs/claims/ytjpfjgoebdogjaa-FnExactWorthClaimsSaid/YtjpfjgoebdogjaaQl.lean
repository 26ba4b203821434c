/- Laying cards: the program's lay. -/
import Derived.Test.YtjpfjgoebdogjaaQi
import Derived.Test.YtjpfjgoebdogjaaGw
import Derived.Deep.RegionHeld3
import Derived.Deep.DeepCutAuto
namespace Go.Proofs.Ytjpfjgoebdogjaa.deal
open Go.RowKit
open cards
set_option linter.unusedVariables false

theorem Own.nil0 {w : World} {B n c : Nat} {p : Option Addr} {l : List Cd} (h : Own w B (.slice p n c) l) : p = none → c = 0 := fun e => by
  subst e
  obtain ⟨_, ⟨e, _⟩ | ⟨g, cap, cur, e, _⟩⟩ := h
  · injection e
  · injection e with e1 e2 e3; cases e1
/-- The cards from a on, up to b, lie at the slice's address. -/
theorem Rd.part {w : World} {g : Nat} {l : List Cd} (h : Rd w (some ⟨g, 0, none⟩) (flat l)) (a b : Nat) (hab : a ≤ b) : Rd w (if b = a then some ⟨g, 0, none⟩ else some ⟨g, a * 4, none⟩) (flat ((l.drop a).take (b - a))) := by
  split
  · rename_i e
    subst e
    rw [Nat.sub_self, List.take_zero]
    intro hp; simp [flat] at hp
  · have := (h.drop a).take (b - a)
    rwa [Nat.zero_add] at this

theorem parts_lay {w : World} {p q : Option Addr} {n m c c2 : Nat} {l l2 : List Cd} (hr : Rd w p (flat l)) (hr2 : Rd w q (flat l2)) (hn : l.length = n) (hm : l2.length = m) (h0 : p = none → c = 0) (h2 : q = none → c2 = 0) :
    ∀ j l', [l, l2][j]? = some l' → ∃ q' c', (w.alloc (.cells #[.slice p n c, .slice q m c2] 22)).drew.cell? ⟨w.heap.size, j, none⟩ = some (.slice q' l'.length c') ∧ Rd (w.alloc (.cells #[.slice p n c, .slice q m c2] 22)).drew q' (flat l') ∧ (q' = none → c' = 0) := by
  intro j l' h
  have hj : j < 2 := (List.getElem?_eq_some_iff.1 h).1
  have hc : ∀ j, (w.alloc (.cells #[.slice p n c, .slice q m c2] 22)).drew.cell? ⟨w.heap.size, j, none⟩ = (#[Value.slice p n c, .slice q m c2] : Array Value)[j]? := fun j => cell_of_row _ _ j _ _ _ (heap_alloc_new w _)
  rcases (show j = 0 ∨ j = 1 by omega) with rfl | rfl
  · simp at h; subst h
    exact ⟨_, _, by rw [hc, hn]; rfl, (hr.alloc _).drew, h0⟩
  · simp at h; subst h
    exact ⟨_, _, by rw [hc, hm]; rfl, (hr2.alloc _).drew, h2⟩

set_option maxRecDepth 100000 in
set_option maxHeartbeats 4000000 in
theorem impl_lay (s : Int) (a : Nat) (k : Int) (l : List Cd) (p : Option Addr) (n cp : Nat) (w : World) (hs : 0 ≤ s ∧ s ≤ 65535) (ha : a ≤ 81) (hk : 0 ≤ k ∧ k ≤ 1000) (hn : l.length = n) (hl : n ≤ 1000) (hr : Rd w p (flat l)) (h0 : p = none → cp = 0) :
    Calls Try.prog 80 #[dval s a (.slice p n cp), .int .i64 k] w fun e w' => ∃ u, e = .returned (dval s (layD ⟨s, a, l⟩ k).nx u) ∧ Own w' w.heap.size u (layD ⟨s, a, l⟩ k).l ∧ Below w.heap.size w w' := by
  have HS := Lib.hid hs
  have HN := Lib.hid hn
  have HR := Lib.hid hr
  have HR0 := Lib.hid hr
  have H0 := Lib.hid h0
  have HPl := Lib.hid (pile_len s)
  obtain ⟨k0, k1⟩ := hk
  have he := endD_bd (d := ⟨s, (a : Int), l⟩) (n := k) (by simp only; omega) k0
  simp only at he
  obtain ⟨b0, hb⟩ : ∃ b0 : Nat, endD ⟨s, (a : Int), l⟩ k = (b0 : Int) := ⟨(endD ⟨s, (a : Int), l⟩ k).toNat, by omega⟩
  have HNx := Lib.hid (show (layD ⟨s, (a : Int), l⟩ k).nx = (b0 : Int) from hb)
  have HLl := Lib.hid (show (layD ⟨s, (a : Int), l⟩ k).l = l ++ ((pile s).drop a).take (b0 - a) by show _ ++ ((pile s).drop ((a : Int).toNat)).take ((endD ⟨s, (a : Int), l⟩ k).toNat - ((a : Int).toNat)) = _; rw [hb]; rfl)
  rw [hb] at he
  have m0 : (a : Int) ≤ (b0 : Int) := he.1
  have m1 : (b0 : Int) ≤ 81 := he.2.1
  have m2 : (0 : Int) ≤ (a : Int) := by omega
  have HE := Lib.hid (show (b0 : Int) = if 81 < (a : Int) + k then 81 else (a : Int) + k by rw [← hb]; rfl)
  rw [HNx.out, HLl.out]
  have HAB := Lib.hid (show a ≤ b0 by omega)
  clear hs hn hr h0 he hb
  go_enter Try.func80, Try.ntmps80
  go_upto_region 2 with fail
  rw [← HE.out]
  have HPf := Lib.hid (fun w => pile_from s w HS.out)
  have HC : Hid (∃ L : List (List Cd), L = [l, ((pile s).drop a).take (b0 - a)]) := Lib.hid ⟨_, rfl⟩
  go_cut [6] (fun s6 wx => ∃ pu, s6 = .slice pu (b0 - a) (b0 - a) ∧ (pu = none → b0 - a = 0) ∧ Hid (Rd wx pu (flat (((pile s).drop a).take (b0 - a)))) ∧ Hid (Below w.heap.size w wx) ∧ Hid (DBox wx w.heap.size ⟨31, s, a, .slice p n cp⟩) ∧ Hid (DBox wx (w.heap.size + 1) ⟨31, 0, 0, .slice none 0 0⟩))
  case first =>
    go_region_held3 (fun w' => w'.cell? ⟨w.heap.size, 0, none⟩ = some (.int .i64 s) ∧ w'.cell? ⟨w.heap.size, 1, none⟩ = some (.int .i64 (a : Int)) ∧ w'.cell? ⟨w.heap.size, 2, none⟩ = some (.slice p n cp)) (first | exact ⟨k0a, k0b, k0c⟩ | go_keep) (first
      | (go_at_call 87; refine (HPf.out _).mono ?_; rintro e wq ⟨u, rfl, hu, b⟩; obtain ⟨pu, cu, rfl, hcu, ru⟩ := hu.form; rw [HPl.out] at hu hcu ⊢; have HB := Lib.hid (chain0 (w := w) (by repeat (first | with_reducible exact Below.refl _ _ | with_reducible exact HB.out | with_reducible apply Below.drew | with_reducible apply bdN | with_reducible refine Below.alloc ?_ (by first | exact Nat.le_refl _ | with_reducible exact HB.out.size | omega | (simp; done) | (simp; omega) | (have := HB.out.size; simp at *; omega)) _ | with_reducible refine Below.setCell ?_ (by first | exact Nat.le_refl _ | with_reducible exact HB.out.size | omega | (simp; done) | (simp; omega) | (have := HB.out.size; simp at *; omega)) _)) b); have HR := Lib.hid (Rd.below (by repeat (first | with_reducible exact HR.out | with_reducible apply Rd.drewN | with_reducible apply Rd.drew | with_reducible apply Rd.alloc)) b); have K0 : Hid (DBox _ (w.heap.size) (⟨31, s, a, .slice p n cp⟩)) := Lib.hid (DBox.below (by repeat (first | with_reducible exact K0.out | with_reducible apply DBox.drewN | with_reducible apply DBox.drew | (with_reducible refine DBox.newAt ?_ ?_ <;> first | (simp; done) | rfl) | with_reducible apply DBox.alloc)) b); have K4 : Hid (DBox _ (w.heap.size + 1) (⟨31, 0, 0, .slice none 0 0⟩)) := Lib.hid (DBox.below (by repeat (first | with_reducible exact K4.out | with_reducible apply DBox.drewN | with_reducible apply DBox.drew | (with_reducible refine DBox.newAt ?_ ?_ <;> first | (simp; done) | rfl) | with_reducible apply DBox.alloc)) b); obtain ⟨k0a, k0b, k0c, k0d⟩ := K0.out.cell; have k0z := K0.out.lt; obtain ⟨k4a, k4b, k4c, k4d⟩ := K4.out.cell; have k4z := K4.out.lt; have k4f := K4.out.frozen; have R1 := Lib.hid ru; have qcu : (b0 : Int) ≤ (cu : Int) := Int.le_trans m1 (Int.ofNat_le.mpr hcu); clear b hu hcu ru))
    all_goals
      have HQ := Lib.hid (Rd.part R1.out a b0 HAB.out)
      have HN0 : Hid ((if b0 = a then some ⟨pu, 0, none⟩ else some ⟨pu, a * 4, none⟩ : Option Addr) = none → b0 - a = 0) := Lib.hid (fun h => by split at h <;> cases h)
      generalize (if b0 = a then (some ⟨pu, 0, none⟩ : Option Addr) else some ⟨pu, a * 4, none⟩) = pv at HQ HN0 ⊢
      go_wp2_with fail
      go_meet
      case rel => exact ⟨pv, rfl, HN0.out, HQ, HB, K0, K4⟩
  case rest =>
    clear HR HPf
    obtain ⟨pu, rfl, hp0, HP, HB, K0, K4⟩ := hcut
    obtain ⟨k0a, k0b, k0c, k0d⟩ := K0.out.cell
    have k0z := K0.out.lt
    obtain ⟨k4a, k4b, k4c, k4d⟩ := K4.out.cell
    have k4z := K4.out.lt
    have k4f := K4.out.frozen
    have HR := Lib.hid (Rd.below HR0.out HB.out)
    have HPlen := Lib.hid (show ([l, ((pile s).drop a).take (b0 - a)] : List (List Cd)).flatten.length ≤ 1000000 by have := HN.out; have := HPl.out; simp; omega)
    have HPp := Lib.hid (parts_lay HR.out HP.out HN.out (show (((pile s).drop a).take (b0 - a)).length = b0 - a by have := HPl.out; simp; omega) H0.out hp0)
    obtain ⟨m, hm⟩ : ∃ m, (l ++ ((pile s).drop a).take (b0 - a)).length = m := ⟨_, rfl⟩
    have HMm := Lib.hid hm
    clear hm
    go_wp2_with fail
    go_region_law (go_simp; go_at_call 104; refine (concat [l, ((pile s).drop a).take (b0 - a)] wc.heap.size 2 2 _ rfl (by omega) HPlen.out (by simp) HPp.out).mono ?_; rintro e w5 ⟨u, rfl, hu, b⟩; have hu2 : Own w5 (w.heap.size + 2) u (l ++ ((pile s).drop a).take (b0 - a)) := (by have := hu.base (B' := w.heap.size + 2) (by simp; omega); simpa using this); obtain ⟨pv, cv, rfl, _, _, _⟩ := hu2.form; rw [HMm.out] at hu2 ⊢; have HU := Lib.hid hu2; clear hu2; have HB := Lib.hid (chain0 (w := w) (by repeat (first | with_reducible exact Below.refl _ _ | with_reducible exact HB.out | with_reducible apply Below.drew | with_reducible apply bdN | with_reducible refine Below.alloc ?_ (by first | exact Nat.le_refl _ | with_reducible exact HB.out.size | omega | (simp; done) | (simp; omega) | (have := HB.out.size; simp at *; omega)) _ | with_reducible refine Below.setCell ?_ (by first | exact Nat.le_refl _ | with_reducible exact HB.out.size | omega | (simp; done) | (simp; omega) | (have := HB.out.size; simp at *; omega)) _)) b); have K0 : Hid (DBox _ (w.heap.size) (⟨31, s, a, .slice p n cp⟩)) := Lib.hid (DBox.below (by repeat (first | with_reducible exact K0.out | with_reducible apply DBox.drewN | with_reducible apply DBox.drew | (with_reducible refine DBox.newAt ?_ ?_ <;> first | (simp; done) | rfl) | with_reducible apply DBox.alloc)) b); have K4 : Hid (DBox _ (w.heap.size + 1) (⟨31, 0, 0, .slice none 0 0⟩)) := Lib.hid (DBox.below (by repeat (first | with_reducible exact K4.out | with_reducible apply DBox.drewN | with_reducible apply DBox.drew | (with_reducible refine DBox.newAt ?_ ?_ <;> first | (simp; done) | rfl) | with_reducible apply DBox.alloc)) b); obtain ⟨k0a, k0b, k0c, k0d⟩ := K0.out.cell; have k0z := K0.out.lt; obtain ⟨k4a, k4b, k4c, k4d⟩ := K4.out.cell; have k4z := K4.out.lt; have k4f := K4.out.frozen; clear hu)
    all_goals
      go_wp2_with fail
      try simp only [Exit.inBlock, Exit.then]
      refine bodyPost_ret (res_deal Try.results80 rfl (K4.out.set_ _ _ _)) rfl ?_
      exact ⟨_, rfl, (Own.far (Own.far (Own.far HU.out (Nat.lt_succ_self _) _) (Nat.lt_succ_self _) _) (Nat.lt_succ_self _) _).base (by omega), by repeat (first | with_reducible exact Below.refl _ _ | with_reducible exact HB.out | with_reducible apply Below.drew | with_reducible apply bdN | with_reducible refine Below.alloc ?_ (by first | exact Nat.le_refl _ | with_reducible exact HB.out.size | omega | (simp; done) | (simp; omega) | (have := HB.out.size; simp at *; omega)) _ | with_reducible refine Below.setCell ?_ (by first | exact Nat.le_refl _ | with_reducible exact HB.out.size | omega | (simp; done) | (simp; omega) | (have := HB.out.size; simp at *; omega)) _)⟩
end Go.Proofs.Ytjpfjgoebdogjaa.deal
