/- A line that is taken: the program's takeLine. -/
import Derived.Test.YtjpfjgoebdogjaaQl
import Derived.Test.YtjpfjgoebdogjaaQt
namespace Go.Proofs.Ytjpfjgoebdogjaa.deal
open Go.RowKit
open cards
set_option linter.unusedVariables false

theorem inA_iff {t : A3} {k : Nat} : decide ((k : Int) ∈ [t.a, t.b, t.c]) = inA t k := by
  unfold inA
  rw [Bool.eq_iff_iff, decide_eq_true_iff, decide_eq_true_iff]; simp
theorem keep_le (l : List Cd) (t : A3) (k : Nat) : (keep l t k).length ≤ k := by
  have := (keep_sub l t k).length_le
  rw [List.length_take] at this; omega
set_option maxRecDepth 100000 in
set_option maxHeartbeats 4000000 in
theorem impl_take (s : Int) (a : Nat) (l : List Cd) (t : A3) (p : Option Addr) (n cp : Nat) (w : World) (hs : 0 ≤ s ∧ s ≤ 65535) (ha : a ≤ 81) (hn : l.length = n) (hl : n ≤ 81) (hr : Rd w p (flat l)) :
    Calls Try.prog 82 #[dval s a (.slice p n cp), t.val] w fun e w' => ∃ u, e = .returned (dval s (takeD ⟨s, a, l⟩ t).nx u) ∧ Own w' w.heap.size u (takeD ⟨s, a, l⟩ t).l ∧ Below w.heap.size w w' := by
  have HS := Lib.hid hs
  have HN := Lib.hid hn
  have HR0 := Lib.hid hr
  clear hs hn hr
  have hz : (((w.alloc (Dv.mk 31 s a (.slice p n cp)).obj).alloc t.obj).alloc (Dv.mk 31 0 0 (.slice none 0 0)).obj).heap.size = w.heap.size + 3 := by simp
  have HO := Lib.hid (Own.empty ((((w.alloc (Dv.mk 31 s a (.slice p n cp)).obj).alloc t.obj).alloc (Dv.mk 31 0 0 (.slice none 0 0)).obj)) (w.heap.size + 3) (by rw [hz]; exact Nat.le_refl _))
  rw [hz] at HO
  have HK0 : Hid (DBox (((w.alloc (Dv.mk 31 s a (.slice p n cp)).obj).alloc t.obj).alloc (Dv.mk 31 0 0 (.slice none 0 0)).obj) w.heap.size ⟨31, s, a, .slice p n cp⟩) := Lib.hid (((DBox.newAt rfl rfl).alloc _).alloc _)
  have HK3 : Hid (TBox (((w.alloc (Dv.mk 31 s a (.slice p n cp)).obj).alloc t.obj).alloc (Dv.mk 31 0 0 (.slice none 0 0)).obj) (w.heap.size + 1) t) := Lib.hid ((TBox.newAt (by simp) rfl).alloc _)
  have HK4 : Hid (DBox (((w.alloc (Dv.mk 31 s a (.slice p n cp)).obj).alloc t.obj).alloc (Dv.mk 31 0 0 (.slice none 0 0)).obj) (w.heap.size + 1 + 1) ⟨31, 0, 0, .slice none 0 0⟩) := Lib.hid (DBox.newAt (by simp) rfl)
  clear hz
  go_enter Try.func82, Try.ntmps82
  go_wp2_with fail
  go_loopw [5, 6, 7, 12] (fun o _ _ i wr => ∃ k : Nat, k ≤ n ∧ i = .int .i64 k ∧ Hid (Own wr (w.heap.size + 3) o (keep l t k)) ∧ Hid (Below w.heap.size w wr) ∧ Hid (DBox wr w.heap.size ⟨31, s, a, .slice p n cp⟩) ∧ Hid (TBox wr (w.heap.size + 1) t) ∧ Hid (DBox wr (w.heap.size + 1 + 1) ⟨31, 0, 0, .slice none 0 0⟩)) (fun _ _ _ i _ => n - (intOf i).toNat)
  case atStart => exact ⟨0, Nat.zero_le _, rfl, HO, Lib.hid (by repeat (first | with_reducible exact Below.refl _ _ | with_reducible exact HB.out | with_reducible apply Below.drew | with_reducible apply bdN | with_reducible refine Below.alloc ?_ (by first | exact Nat.le_refl _ | with_reducible exact HB.out.size | omega | (simp; done) | (simp; omega) | (have := HB.out.size; simp at *; omega)) _ | with_reducible refine Below.setCell ?_ (by first | exact Nat.le_refl _ | with_reducible exact HB.out.size | omega | (simp; done) | (simp; omega) | (have := HB.out.size; simp at *; omega)) _)), Lib.hid (HK0.out.alloc _), Lib.hid (HK3.out.alloc _), Lib.hid (HK4.out.alloc _)⟩
  case round =>
    clear HO HK0 HK3 HK4
    obtain ⟨k, hk, rfl, HO, HB, K0, K3, K4⟩ := hrel
    have k4z := K4.out.lt
    by_cases hlt : k < n
    · have HR := Lib.hid (HR0.out.below HB.out)
      obtain ⟨bk, o, x, rfl, hb, hx, c0, c1, c2, c3⟩ := HR.out.card (k := k) (by rw [HN.out]; exact hlt)
      have HX := Lib.hid hx
      have m2 : (0 : Int) ≤ (k : Int) := by omega
      have m3 : (k : Int) < (n : Int) := by omega
      have HL := Lib.hid (keep_le l t k)
      have HC := Lib.hid (fun (w' : World) (g cp : Nat) (hr : Rd w' (some ⟨g, 0, none⟩) (ints [t.a, t.b, t.c])) => contains_int [t.a, t.b, t.c] (k : Int) (some ⟨g, 0, none⟩) 3 cp w' rfl (by omega) hr)
      clear hx
      cases hi : inA t k
      · have HK := Lib.hid (keep_yes HX.out hi)
        have HC := HC.out
        rw [inA_iff, hi] at HC
        have HC := Lib.hid HC
        clear hi
        go_upto_region 5 with fail
        obtain ⟨w3, ew, b⟩ : ∃ wOPN : World, wOPN = (wr.alloc x.obj) ∧ Below ((wr.alloc x.obj)).heap.size ((wr.alloc x.obj)) wOPN := ⟨_, rfl, Below.refl _ _⟩
        rw [← ew]
        clear ew
        have Sw3 := Lib.hid b.size
        have HB := Lib.hid (chain0 (w := w) (by repeat (first | with_reducible exact Below.refl _ _ | with_reducible exact HB.out | with_reducible apply Below.drew | with_reducible apply bdN | with_reducible refine Below.alloc ?_ (by first | exact Nat.le_refl _ | with_reducible exact HB.out.size | omega | (simp; done) | (simp; omega) | (have := HB.out.size; simp at *; omega)) _ | with_reducible refine Below.setCell ?_ (by first | exact Nat.le_refl _ | with_reducible exact HB.out.size | omega | (simp; done) | (simp; omega) | (have := HB.out.size; simp at *; omega)) _)) b)
        have HO := Lib.hid (Own.below (by repeat (first | with_reducible exact HO.out | with_reducible apply Own.drewN | with_reducible apply Own.drew | with_reducible apply Own.alloc)) b)
        have K0 : Hid (DBox _ (w.heap.size) (⟨31, s, a, .slice (some ⟨bk, o, none⟩) n cp⟩)) := Lib.hid (DBox.below (by repeat (first | with_reducible exact K0.out | with_reducible apply DBox.drewN | with_reducible apply DBox.drew | (with_reducible refine DBox.newAt ?_ ?_ <;> first | (simp; done) | rfl) | with_reducible apply DBox.alloc)) b)
        have K3 : Hid (TBox _ (w.heap.size + 1) (t)) := Lib.hid (TBox.below (by repeat (first | with_reducible exact K3.out | with_reducible apply TBox.drewN | with_reducible apply TBox.drew | (with_reducible refine TBox.newAt ?_ ?_ <;> first | (simp; done) | rfl) | with_reducible apply TBox.alloc)) b)
        have K4 : Hid (DBox _ (w.heap.size + 1 + 1) (⟨31, 0, 0, .slice none 0 0⟩)) := Lib.hid (DBox.below (by repeat (first | with_reducible exact K4.out | with_reducible apply DBox.drewN | with_reducible apply DBox.drew | (with_reducible refine DBox.newAt ?_ ?_ <;> first | (simp; done) | rfl) | with_reducible apply DBox.alloc)) b)
        have K5 : Hid (Box _ (wr.heap.size) (x)) := Lib.hid (Box.below (by repeat (first | with_reducible exact K5.out | with_reducible apply Box.drewN | with_reducible apply Box.drew | (with_reducible refine Box.newAt ?_ ?_ <;> first | (simp; done) | rfl) | with_reducible apply Box.alloc)) b)
        try clear k0a k0b k0c k0d k0z
        have k0z := K0.out.lt
        obtain ⟨k0a, k0b, k0c, k0d⟩ := K0.out.cell
        try clear k3a k3b k3c k3d k3z
        have k3z := K3.out.lt
        obtain ⟨k3a, k3b, k3c, k3d⟩ := K3.out.cell
        try clear k4a k4b k4c k4d k4z
        have k4z := K4.out.lt
        obtain ⟨k4a, k4b, k4c, k4d⟩ := K4.out.cell
        try clear k5a k5b k5c k5d k5z
        have k5z := K5.out.lt
        obtain ⟨k5a, k5b, k5c, k5d⟩ := K5.out.cell
        clear b
        go_wp2_with fail
        refine ((HC.out _ _ _ K3.out.rd)).mono ?_
        rintro e w4 ⟨rfl, b⟩
        have Sw4 := Lib.hid b.size
        have HB := Lib.hid (chain0 (w := w) (by repeat (first | with_reducible exact Below.refl _ _ | with_reducible exact HB.out | with_reducible apply Below.drew | with_reducible apply bdN | with_reducible refine Below.alloc ?_ (by first | exact Nat.le_refl _ | with_reducible exact HB.out.size | omega | (simp; done) | (simp; omega) | (have := HB.out.size; simp at *; omega)) _ | with_reducible refine Below.setCell ?_ (by first | exact Nat.le_refl _ | with_reducible exact HB.out.size | omega | (simp; done) | (simp; omega) | (have := HB.out.size; simp at *; omega)) _)) b)
        have HO := Lib.hid (Own.below (by repeat (first | with_reducible exact HO.out | with_reducible apply Own.drewN | with_reducible apply Own.drew | with_reducible apply Own.alloc)) b)
        have K0 : Hid (DBox _ (w.heap.size) (⟨31, s, a, .slice (some ⟨bk, o, none⟩) n cp⟩)) := Lib.hid (DBox.below (by repeat (first | with_reducible exact K0.out | with_reducible apply DBox.drewN | with_reducible apply DBox.drew | (with_reducible refine DBox.newAt ?_ ?_ <;> first | (simp; done) | rfl) | with_reducible apply DBox.alloc)) b)
        have K3 : Hid (TBox _ (w.heap.size + 1) (t)) := Lib.hid (TBox.below (by repeat (first | with_reducible exact K3.out | with_reducible apply TBox.drewN | with_reducible apply TBox.drew | (with_reducible refine TBox.newAt ?_ ?_ <;> first | (simp; done) | rfl) | with_reducible apply TBox.alloc)) b)
        have K4 : Hid (DBox _ (w.heap.size + 1 + 1) (⟨31, 0, 0, .slice none 0 0⟩)) := Lib.hid (DBox.below (by repeat (first | with_reducible exact K4.out | with_reducible apply DBox.drewN | with_reducible apply DBox.drew | (with_reducible refine DBox.newAt ?_ ?_ <;> first | (simp; done) | rfl) | with_reducible apply DBox.alloc)) b)
        have K5 : Hid (Box _ (wr.heap.size) (x)) := Lib.hid (Box.below (by repeat (first | with_reducible exact K5.out | with_reducible apply Box.drewN | with_reducible apply Box.drew | (with_reducible refine Box.newAt ?_ ?_ <;> first | (simp; done) | rfl) | with_reducible apply Box.alloc)) b)
        try clear k0a k0b k0c k0d k0z
        have k0z := K0.out.lt
        obtain ⟨k0a, k0b, k0c, k0d⟩ := K0.out.cell
        try clear k3a k3b k3c k3d k3z
        have k3z := K3.out.lt
        obtain ⟨k3a, k3b, k3c, k3d⟩ := K3.out.cell
        try clear k4a k4b k4c k4d k4z
        have k4z := K4.out.lt
        obtain ⟨k4a, k4b, k4c, k4d⟩ := K4.out.cell
        try clear k5a k5b k5c k5d k5z
        have k5z := K5.out.lt
        obtain ⟨k5a, k5b, k5c, k5d⟩ := K5.out.cell
        clear b
        go_wp2_with (at_builtin; refine append_cd rfl (.tmp 21) (.tmp 23) rfl (w.heap.size + 3) _ (keep l t k) x _ _ rfl rfl rfl HO.out (by have := HL.out; omega) (by have := k4z; omega) ?_; intro v1 w6 hO1 hB1)
        rw [← HK.out] at hO1
        go_roundw
        case rel => exact ⟨k + 1, by omega, by go_num, hO1, Lib.hid (HB.out.trans (hB1.mono (by omega))), Lib.hid (K0.out.under (by omega) hB1), Lib.hid (K3.out.under (by omega) hB1), Lib.hid (K4.out.under (by omega) hB1)⟩
        case measure => simp [intOf]; omega
      · have HK := Lib.hid (keep_no (l := l) hi)
        have HC := HC.out
        rw [inA_iff, hi] at HC
        have HC := Lib.hid HC
        clear hi
        go_upto_region 5 with fail
        obtain ⟨w3, ew, b⟩ : ∃ wOPN : World, wOPN = (wr.alloc x.obj) ∧ Below ((wr.alloc x.obj)).heap.size ((wr.alloc x.obj)) wOPN := ⟨_, rfl, Below.refl _ _⟩
        rw [← ew]
        clear ew
        have Sw3 := Lib.hid b.size
        have HB := Lib.hid (chain0 (w := w) (by repeat (first | with_reducible exact Below.refl _ _ | with_reducible exact HB.out | with_reducible apply Below.drew | with_reducible apply bdN | with_reducible refine Below.alloc ?_ (by first | exact Nat.le_refl _ | with_reducible exact HB.out.size | omega | (simp; done) | (simp; omega) | (have := HB.out.size; simp at *; omega)) _ | with_reducible refine Below.setCell ?_ (by first | exact Nat.le_refl _ | with_reducible exact HB.out.size | omega | (simp; done) | (simp; omega) | (have := HB.out.size; simp at *; omega)) _)) b)
        have HO := Lib.hid (Own.below (by repeat (first | with_reducible exact HO.out | with_reducible apply Own.drewN | with_reducible apply Own.drew | with_reducible apply Own.alloc)) b)
        have K0 : Hid (DBox _ (w.heap.size) (⟨31, s, a, .slice (some ⟨bk, o, none⟩) n cp⟩)) := Lib.hid (DBox.below (by repeat (first | with_reducible exact K0.out | with_reducible apply DBox.drewN | with_reducible apply DBox.drew | (with_reducible refine DBox.newAt ?_ ?_ <;> first | (simp; done) | rfl) | with_reducible apply DBox.alloc)) b)
        have K3 : Hid (TBox _ (w.heap.size + 1) (t)) := Lib.hid (TBox.below (by repeat (first | with_reducible exact K3.out | with_reducible apply TBox.drewN | with_reducible apply TBox.drew | (with_reducible refine TBox.newAt ?_ ?_ <;> first | (simp; done) | rfl) | with_reducible apply TBox.alloc)) b)
        have K4 : Hid (DBox _ (w.heap.size + 1 + 1) (⟨31, 0, 0, .slice none 0 0⟩)) := Lib.hid (DBox.below (by repeat (first | with_reducible exact K4.out | with_reducible apply DBox.drewN | with_reducible apply DBox.drew | (with_reducible refine DBox.newAt ?_ ?_ <;> first | (simp; done) | rfl) | with_reducible apply DBox.alloc)) b)
        have K5 : Hid (Box _ (wr.heap.size) (x)) := Lib.hid (Box.below (by repeat (first | with_reducible exact K5.out | with_reducible apply Box.drewN | with_reducible apply Box.drew | (with_reducible refine Box.newAt ?_ ?_ <;> first | (simp; done) | rfl) | with_reducible apply Box.alloc)) b)
        try clear k0a k0b k0c k0d k0z
        have k0z := K0.out.lt
        obtain ⟨k0a, k0b, k0c, k0d⟩ := K0.out.cell
        try clear k3a k3b k3c k3d k3z
        have k3z := K3.out.lt
        obtain ⟨k3a, k3b, k3c, k3d⟩ := K3.out.cell
        try clear k4a k4b k4c k4d k4z
        have k4z := K4.out.lt
        obtain ⟨k4a, k4b, k4c, k4d⟩ := K4.out.cell
        try clear k5a k5b k5c k5d k5z
        have k5z := K5.out.lt
        obtain ⟨k5a, k5b, k5c, k5d⟩ := K5.out.cell
        clear b
        go_wp2_with fail
        refine ((HC.out _ _ _ K3.out.rd)).mono ?_
        rintro e w4 ⟨rfl, b⟩
        have Sw4 := Lib.hid b.size
        have HB := Lib.hid (chain0 (w := w) (by repeat (first | with_reducible exact Below.refl _ _ | with_reducible exact HB.out | with_reducible apply Below.drew | with_reducible apply bdN | with_reducible refine Below.alloc ?_ (by first | exact Nat.le_refl _ | with_reducible exact HB.out.size | omega | (simp; done) | (simp; omega) | (have := HB.out.size; simp at *; omega)) _ | with_reducible refine Below.setCell ?_ (by first | exact Nat.le_refl _ | with_reducible exact HB.out.size | omega | (simp; done) | (simp; omega) | (have := HB.out.size; simp at *; omega)) _)) b)
        have HO := Lib.hid (Own.below (by repeat (first | with_reducible exact HO.out | with_reducible apply Own.drewN | with_reducible apply Own.drew | with_reducible apply Own.alloc)) b)
        have K0 : Hid (DBox _ (w.heap.size) (⟨31, s, a, .slice (some ⟨bk, o, none⟩) n cp⟩)) := Lib.hid (DBox.below (by repeat (first | with_reducible exact K0.out | with_reducible apply DBox.drewN | with_reducible apply DBox.drew | (with_reducible refine DBox.newAt ?_ ?_ <;> first | (simp; done) | rfl) | with_reducible apply DBox.alloc)) b)
        have K3 : Hid (TBox _ (w.heap.size + 1) (t)) := Lib.hid (TBox.below (by repeat (first | with_reducible exact K3.out | with_reducible apply TBox.drewN | with_reducible apply TBox.drew | (with_reducible refine TBox.newAt ?_ ?_ <;> first | (simp; done) | rfl) | with_reducible apply TBox.alloc)) b)
        have K4 : Hid (DBox _ (w.heap.size + 1 + 1) (⟨31, 0, 0, .slice none 0 0⟩)) := Lib.hid (DBox.below (by repeat (first | with_reducible exact K4.out | with_reducible apply DBox.drewN | with_reducible apply DBox.drew | (with_reducible refine DBox.newAt ?_ ?_ <;> first | (simp; done) | rfl) | with_reducible apply DBox.alloc)) b)
        have K5 : Hid (Box _ (wr.heap.size) (x)) := Lib.hid (Box.below (by repeat (first | with_reducible exact K5.out | with_reducible apply Box.drewN | with_reducible apply Box.drew | (with_reducible refine Box.newAt ?_ ?_ <;> first | (simp; done) | rfl) | with_reducible apply Box.alloc)) b)
        try clear k0a k0b k0c k0d k0z
        have k0z := K0.out.lt
        obtain ⟨k0a, k0b, k0c, k0d⟩ := K0.out.cell
        try clear k3a k3b k3c k3d k3z
        have k3z := K3.out.lt
        obtain ⟨k3a, k3b, k3c, k3d⟩ := K3.out.cell
        try clear k4a k4b k4c k4d k4z
        have k4z := K4.out.lt
        obtain ⟨k4a, k4b, k4c, k4d⟩ := K4.out.cell
        try clear k5a k5b k5c k5d k5z
        have k5z := K5.out.lt
        obtain ⟨k5a, k5b, k5c, k5d⟩ := K5.out.cell
        clear b
        go_wp2_with fail
        go_roundw
        case rel => exact ⟨k + 1, by omega, by go_num, by rw [HK.out]; exact HO, HB, K0, K3, K4⟩
        case measure => simp [intOf]; omega
    · obtain rfl : k = n := by omega
      obtain ⟨m, hm⟩ : ∃ m, (keep l t k).length = m := ⟨_, rfl⟩
      have HMk := Lib.hid hm
      have hmn : m ≤ k := by rw [← hm]; exact keep_le l t k
      obtain ⟨po, co, rfl, _, _, _⟩ := HO.out.form
      rw [hm] at HO ⊢
      clear hm
      have HNe := Lib.hid (show needD l t = if 0 < 12 - (m : Int) then 12 - (m : Int) else 0 by unfold needD; rw [HN.out, HMk.out])
      have HTk := Lib.hid (show takeD ⟨s, (a : Int), l⟩ t = layD ⟨s, (a : Int), keep l t k⟩ (needD l t) by unfold takeD; rw [show (Dl.mk s (a : Int) l).l.length = k from HN.out])
      have HNn := Lib.hid (need_nn l t)
      obtain ⟨k0a, k0b, k0c, k0d⟩ := K0.out.cell
      have k0z := K0.out.lt
      have k0f := K0.out.frozen
      go_upto_region 9 with fail
      have HRo := Lib.hid (Own.rd (Own.far HO.out (p := ⟨w.heap.size, 2, none⟩) (by simp) (.slice po m co)))
      have K4 : Hid (DBox (wr.setCell ⟨w.heap.size, 2, none⟩ (.slice po m co)) (w.heap.size + 1 + 1) ⟨31, 0, 0, .slice none 0 0⟩) := Lib.hid (DBox.far K4.out (by simp only; omega) _)
      have HN0 := Lib.hid (Own.nil0 HO.out)
      have HB : Hid (Below w.heap.size w (wr.setCell ⟨w.heap.size, 2, none⟩ (.slice po m co))) := Lib.hid (HB.out.setCell (Nat.le_refl _) _)
      by_cases h12 : 12 < (m : Int)
      · have HTk := Lib.hid (show takeD ⟨s, (a : Int), l⟩ t = layD ⟨s, (a : Int), keep l t k⟩ 0 by rw [HTk.out, HNe.out, if_neg (by omega)])
        go_wp2_with fail
        refine (impl_lay s a 0 (keep l t k) po m co _ HS.out ha (by omega) HMk.out (by omega) HRo.out HN0.out).mono ?_
        rintro e w9 ⟨u, rfl, hu, b⟩
        have HZ := Lib.hid (show w.heap.size + 3 ≤ (wr.setCell ⟨w.heap.size, 2, none⟩ (.slice po m co)).heap.size by have := K4.out.lt; omega)
        have Sw9 := Lib.hid b.size
        have HB := Lib.hid (chain0 (w := w) (by repeat (first | with_reducible exact Below.refl _ _ | with_reducible exact HB.out | with_reducible apply Below.drew | with_reducible apply bdN | with_reducible refine Below.alloc ?_ (by first | exact Nat.le_refl _ | with_reducible exact HB.out.size | omega | (simp; done) | (simp; omega) | (have := HB.out.size; simp at *; omega)) _ | with_reducible refine Below.setCell ?_ (by first | exact Nat.le_refl _ | with_reducible exact HB.out.size | omega | (simp; done) | (simp; omega) | (have := HB.out.size; simp at *; omega)) _)) b)
        have K4 : Hid (DBox _ (w.heap.size + 1 + 1) (⟨31, 0, 0, .slice none 0 0⟩)) := Lib.hid (DBox.below (by repeat (first | with_reducible exact K4.out | with_reducible apply DBox.drewN | with_reducible apply DBox.drew | (with_reducible refine DBox.newAt ?_ ?_ <;> first | (simp; done) | rfl) | with_reducible apply DBox.alloc)) b)
        try clear k4a k4b k4c k4d k4z
        have k4z := K4.out.lt
        obtain ⟨k4a, k4b, k4c, k4d⟩ := K4.out.cell
        try clear k4f
        have k4f := K4.out.frozen
        clear b
        have HU := Lib.hid (hu.base HZ.out)
        obtain ⟨pv, cv, rfl, _, _, _⟩ := HU.out.form
        clear hu
        go_wp2_with fail
        try simp only [Exit.inBlock, Exit.then]
        refine bodyPost_ret (res_deal Try.results82 rfl (K4.out.set_ _ _ _)) rfl ?_
        exact ⟨_, by rw [HTk.out], by rw [HTk.out]; exact (Own.far (Own.far (Own.far HU.out (Nat.lt_succ_self _) _) (Nat.lt_succ_self _) _) (Nat.lt_succ_self _) _).base (by omega), by repeat (first | with_reducible exact Below.refl _ _ | with_reducible exact HB.out | with_reducible apply Below.drew | with_reducible apply bdN | with_reducible refine Below.alloc ?_ (by first | exact Nat.le_refl _ | with_reducible exact HB.out.size | omega | (simp; done) | (simp; omega) | (have := HB.out.size; simp at *; omega)) _ | with_reducible refine Below.setCell ?_ (by first | exact Nat.le_refl _ | with_reducible exact HB.out.size | omega | (simp; done) | (simp; omega) | (have := HB.out.size; simp at *; omega)) _)⟩
      · have HTk := Lib.hid (show takeD ⟨s, (a : Int), l⟩ t = layD ⟨s, (a : Int), keep l t k⟩ (12 - (m : Int)) by rw [HTk.out, HNe.out]; congr 1; split <;> omega)
        go_wp2_with fail
        refine (impl_lay s a (12 - (m : Int)) (keep l t k) po m co _ HS.out ha (by omega) HMk.out (by omega) HRo.out HN0.out).mono ?_
        rintro e w9 ⟨u, rfl, hu, b⟩
        have HZ := Lib.hid (show w.heap.size + 3 ≤ (wr.setCell ⟨w.heap.size, 2, none⟩ (.slice po m co)).heap.size by have := K4.out.lt; omega)
        have Sw9 := Lib.hid b.size
        have HB := Lib.hid (chain0 (w := w) (by repeat (first | with_reducible exact Below.refl _ _ | with_reducible exact HB.out | with_reducible apply Below.drew | with_reducible apply bdN | with_reducible refine Below.alloc ?_ (by first | exact Nat.le_refl _ | with_reducible exact HB.out.size | omega | (simp; done) | (simp; omega) | (have := HB.out.size; simp at *; omega)) _ | with_reducible refine Below.setCell ?_ (by first | exact Nat.le_refl _ | with_reducible exact HB.out.size | omega | (simp; done) | (simp; omega) | (have := HB.out.size; simp at *; omega)) _)) b)
        have K4 : Hid (DBox _ (w.heap.size + 1 + 1) (⟨31, 0, 0, .slice none 0 0⟩)) := Lib.hid (DBox.below (by repeat (first | with_reducible exact K4.out | with_reducible apply DBox.drewN | with_reducible apply DBox.drew | (with_reducible refine DBox.newAt ?_ ?_ <;> first | (simp; done) | rfl) | with_reducible apply DBox.alloc)) b)
        try clear k4a k4b k4c k4d k4z
        have k4z := K4.out.lt
        obtain ⟨k4a, k4b, k4c, k4d⟩ := K4.out.cell
        try clear k4f
        have k4f := K4.out.frozen
        clear b
        have HU := Lib.hid (hu.base HZ.out)
        obtain ⟨pv, cv, rfl, _, _, _⟩ := HU.out.form
        clear hu
        go_wp2_with fail
        try simp only [Exit.inBlock, Exit.then]
        refine bodyPost_ret (res_deal Try.results82 rfl (K4.out.set_ _ _ _)) rfl ?_
        exact ⟨_, by rw [HTk.out], by rw [HTk.out]; exact (Own.far (Own.far (Own.far HU.out (Nat.lt_succ_self _) _) (Nat.lt_succ_self _) _) (Nat.lt_succ_self _) _).base (by omega), by repeat (first | with_reducible exact Below.refl _ _ | with_reducible exact HB.out | with_reducible apply Below.drew | with_reducible apply bdN | with_reducible refine Below.alloc ?_ (by first | exact Nat.le_refl _ | with_reducible exact HB.out.size | omega | (simp; done) | (simp; omega) | (have := HB.out.size; simp at *; omega)) _ | with_reducible refine Below.setCell ?_ (by first | exact Nat.le_refl _ | with_reducible exact HB.out.size | omega | (simp; done) | (simp; omega) | (have := HB.out.size; simp at *; omega)) _)⟩
end Go.Proofs.Ytjpfjgoebdogjaa.deal
