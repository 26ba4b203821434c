/- Merged texts: Pw, G1m, G2e, Pm, Bm, Mp, Bk, No, Nb, Nf, Fc, Na, Cl, Ak, Cq, Fs, G3e, Av, Pu, G3f, G3g. -/
import Derived.Test.YtghfplmpfgkmeaaPr
import Derived.Test.YtghfplmpfgkmeaaG1h
import Derived.Test.YtghfplmpfgkmeaaGn
import Derived.Test.YtghfplmpfgkmeaaAn
import Derived.Test.YtghfplmpfgkmeaaHd
import Derived.Maps.OwnSet
import Derived.Maps.OwnOps
import Derived.DeepKeys4
import Derived.Test.YtghfplmpfgkmeaaIs
import Derived.Test.YtghfplmpfgkmeaaNm
import Derived.Test.YtghfplmpfgkmeaaLm
import Derived.Test.YtghfplmpfgkmeaaHs
import Derived.Test.YtghfplmpfgkmeaaCa
import Derived.Test.YtghfplmpfgkmeaaAp
import Derived.Test.YtghfplmpfgkmeaaG3d
import Derived.Test.YtghfplmpfgkmeaaAt
import Derived.Deep.RegionLaw
import Derived.Lib.SliceRun
/- The program's pairs with a card: pairsWith, makesLine. -/
namespace Go.Proofs.Ytghfplmpfgkmeaa.cards
open Go.RowKit
set_option linter.unusedVariables false

theorem Box.under {w w1 : World} {g B : Nat} {x : Cd} (h : Box w g x) (hg : g < B) (b : Below B w w1) : Box w1 g x := (b.block g hg).trans h

set_option maxRecDepth 100000 in
set_option maxHeartbeats 4000000 in
theorem pairs_with (l : List Cd) (c : Cd) (p : Option Addr) (n cp : Nat) (w : World) (hn : l.length = n) (hl : n ≤ 1000) (hr : Rd w p (flat l)) (hok : l.all Cd.ok = true) (hc : c.ok = true) (hs : sorted l) :
    Calls Try.prog 34 #[.slice p n cp, c.val] w fun e w' => ∃ u, e = .returned u ∧ OwnA2 w' w.heap.size u (prs l c n) ∧ Below w.heap.size w w' := by
  have HN := Lib.hid hn
  have HR0 := Lib.hid hr
  have HS := Lib.hid hs
  have HK := Lib.hid hok
  have HC := Lib.hid hc
  clear hn hr hs hok hc
  go_enter Try.func34, Try.ntmps34
  have hz1 : (w.alloc c.obj).heap.size = w.heap.size + 1 := by simp
  have hz0 := OwnA2.empty (w.alloc c.obj) (w.heap.size + 1) (Nat.le_of_eq hz1.symm)
  rw [hz1] at hz0
  have hz2 := Lib.hid hz0
  clear hz0 hz1
  go_wp2_with fail
  go_loopw [5, 6, 7, 8, 12] (fun o _ _ _ i wr => ∃ k : Nat, k ≤ n ∧ i = .int .i64 k ∧ Hid (OwnA2 wr (w.heap.size + 1) o (prs l c k)) ∧ Hid (Below w.heap.size w wr) ∧ Hid (Box wr w.heap.size c)) (fun _ _ _ _ i _ => n - (intOf i).toNat)
  case atStart => exact ⟨0, Nat.zero_le _, rfl, hz2, Lib.hid (by repeat (first | with_reducible exact Below.refl _ _ | with_reducible exact HB.out | with_reducible apply Below.drew | with_reducible apply bdN | with_reducible refine Below.alloc ?_ (by first | exact Nat.le_refl _ | with_reducible exact HB.out.size | omega | (simp; done) | (simp; omega) | (have := HB.out.size; simp at *; omega)) _ | with_reducible refine Below.setCell ?_ (by first | exact Nat.le_refl _ | with_reducible exact HB.out.size | omega | (simp; done) | (simp; omega) | (have := HB.out.size; simp at *; omega)) _)), Lib.hid (by repeat (first | with_reducible exact HB.out | with_reducible apply Box.drewN | with_reducible apply Box.drew | (with_reducible refine Box.newAt ?_ ?_ <;> first | (simp; done) | rfl) | with_reducible apply Box.alloc))⟩
  case round =>
    obtain ⟨k, hk, rfl, HO, HB, K0⟩ := hrel
    obtain ⟨k0a, k0b, k0c, k0d⟩ := K0.out.cell
    have k0z := K0.out.lt
    by_cases hlt : k < n
    · have HR := Lib.hid (HR0.out.below HB.out)
      obtain ⟨b, o, x, rfl, hb, hx, c0, c1, c2, c3⟩ := HR.out.card (k := k) (by rw [HN.out]; exact hlt)
      have HX := Lib.hid (ok_at HK.out hx)
      have HA := Lib.hid (lineTo_all (c := c) hx)
      have HSt := Lib.hid (show prs l c (k + 1) = prs l c k ++ pr1 l c k l.length from rfl)
      have HLn := Lib.hid (prs_le l c k)
      have he := eq_run x c HX.out HC.out
      have HXa := Lib.hid hx
      have m0 : (0 : Int) ≤ (k : Int) := by omega
      have m1 : (k : Int) < (n : Int) := by omega
      clear hx
      cases hs : same x c
      · have hle := less_le l (third c x)
        obtain ⟨q, hq⟩ : ∃ q, less l (third c x) = q := ⟨_, rfl⟩
        obtain ⟨t, ht⟩ : ∃ t, there l (third c x) = t := ⟨_, rfl⟩
        have HA2 := HA.out
        rw [hs, hq, ht] at HA2
        have HA3 := Lib.hid HA2
        rw [hq, HN.out] at hle
        have HQ := Lib.hid hq
        have HTt := Lib.hid ht
        clear HA HA2 hq ht
        go_wp2_with fail
        have qk0a := fun d os => cell_regrown k0a d os
        have qk0b := fun d os => cell_regrown k0b d os
        have qk0c := fun d os => cell_regrown k0c d os
        have qk0d := fun d os => cell_regrown k0d d os
        have qc0 := fun d os => cell_regrown c0 d os
        have qc1 := fun d os => cell_regrown c1 d os
        have qc2 := fun d os => cell_regrown c2 d os
        have qc3 := fun d os => cell_regrown c3 d os
        refine wp_region_quiet_below (by kernel_rfl) (by kernel_rfl) ?_
        repeat (first | go_big_quiet_step ((fail)) | quiet_step ((fail)))
        refine wpQuiet_nil ?_
        intro w3 hw2
        have b : Below wr.heap.size wr w3 := by obtain ⟨r, hr⟩ := hw2; rw [hr]; exact below_regrown _ _ _
        clear hw2 qc0 qc1 qc2 qc3 qk0a qk0b qk0c qk0d
        have Sw3 := Lib.hid b.size
        have HB := Lib.hid (chain0 (w := w) (by repeat (first | with_reducible exact Below.refl _ _ | with_reducible exact HB.out | with_reducible apply Below.drew | with_reducible apply bdN | with_reducible refine Below.alloc ?_ (by first | exact Nat.le_refl _ | with_reducible exact HB.out.size | omega | (simp; done) | (simp; omega) | (have := HB.out.size; simp at *; omega)) _ | with_reducible refine Below.setCell ?_ (by first | exact Nat.le_refl _ | with_reducible exact HB.out.size | omega | (simp; done) | (simp; omega) | (have := HB.out.size; simp at *; omega)) _)) b)
        have HR := Lib.hid (Rd.below (by repeat (first | with_reducible exact HR.out | with_reducible apply Rd.drewN | with_reducible apply Rd.drew | with_reducible apply Rd.alloc)) b)
        have HO := Lib.hid (OwnA2.below (by repeat (first | with_reducible exact HO.out | with_reducible apply OwnA2.drewN | with_reducible apply OwnA2.drew | with_reducible apply OwnA2.alloc)) b)
        have K0 : Hid (Box _ (w.heap.size) (c)) := Lib.hid (Box.below (by repeat (first | with_reducible exact K0.out | with_reducible apply Box.drewN | with_reducible apply Box.drew | (with_reducible refine Box.newAt ?_ ?_ <;> first | (simp; done) | rfl) | with_reducible apply Box.alloc)) b)
        try clear k0a k0b k0c k0d k0z
        have k0z := K0.out.lt
        obtain ⟨k0a, k0b, k0c, k0d⟩ := K0.out.cell
        clear b
        clear c0 c1 c2 c3 he
        obtain ⟨c0, c1, c2, c3⟩ := HR.out.at_ HXa.out
        have HP := fun w' (hw : Below w3.heap.size w3 w') => place_in l (third c x) (some ⟨b, o, none⟩) n cp w' HN.out (by omega) (HR.out.below hw) HK.out (third_ok _ _) HS.out
        rw [HQ.out, HTt.out] at HP
        have HP3 := Lib.hid HP
        clear HP
        go_wp2_with fail
        have qk0a := fun d os => cell_regrown k0a d os
        have qk0b := fun d os => cell_regrown k0b d os
        have qk0c := fun d os => cell_regrown k0c d os
        have qk0d := fun d os => cell_regrown k0d d os
        have qc0 := fun d os => cell_regrown c0 d os
        have qc1 := fun d os => cell_regrown c1 d os
        have qc2 := fun d os => cell_regrown c2 d os
        have qc3 := fun d os => cell_regrown c3 d os
        refine wp_region_quiet_below (by kernel_rfl) (by kernel_rfl) ?_
        repeat (first | go_big_quiet_step ((first | (go_at_call 44; with_reducible exact Calls.regrown_of (third_of _ _ _ HC.out HX.out)) | (go_at_call 22; with_reducible exact Calls.regrown_of (HP3.out _ (below_regrown _ _ _))))) | quiet_step ((first | (go_at_call 44; with_reducible exact Calls.regrown_of (third_of _ _ _ HC.out HX.out)) | (go_at_call 22; with_reducible exact Calls.regrown_of (HP3.out _ (below_regrown _ _ _))))))
        refine wpQuiet_nil ?_
        intro w4 hw2
        have b : Below w3.heap.size w3 w4 := by obtain ⟨r, hr⟩ := hw2; rw [hr]; exact below_regrown _ _ _
        clear hw2 qc0 qc1 qc2 qc3 qk0a qk0b qk0c qk0d
        have Sw4 := Lib.hid b.size
        have HB := Lib.hid (chain0 (w := w) (by repeat (first | with_reducible exact Below.refl _ _ | with_reducible exact HB.out | with_reducible apply Below.drew | with_reducible apply bdN | with_reducible refine Below.alloc ?_ (by first | exact Nat.le_refl _ | with_reducible exact HB.out.size | omega | (simp; done) | (simp; omega) | (have := HB.out.size; simp at *; omega)) _ | with_reducible refine Below.setCell ?_ (by first | exact Nat.le_refl _ | with_reducible exact HB.out.size | omega | (simp; done) | (simp; omega) | (have := HB.out.size; simp at *; omega)) _)) b)
        have HR := Lib.hid (Rd.below (by repeat (first | with_reducible exact HR.out | with_reducible apply Rd.drewN | with_reducible apply Rd.drew | with_reducible apply Rd.alloc)) b)
        have HO := Lib.hid (OwnA2.below (by repeat (first | with_reducible exact HO.out | with_reducible apply OwnA2.drewN | with_reducible apply OwnA2.drew | with_reducible apply OwnA2.alloc)) b)
        have K0 : Hid (Box _ (w.heap.size) (c)) := Lib.hid (Box.below (by repeat (first | with_reducible exact K0.out | with_reducible apply Box.drewN | with_reducible apply Box.drew | (with_reducible refine Box.newAt ?_ ?_ <;> first | (simp; done) | rfl) | with_reducible apply Box.alloc)) b)
        try clear k0a k0b k0c k0d k0z
        have k0z := K0.out.lt
        obtain ⟨k0a, k0b, k0c, k0d⟩ := K0.out.cell
        clear b
        clear c0 c1 c2 c3
        cases t
        · have HE := Lib.hid (show prs l c (k + 1) = prs l c k by rw [HSt.out, pr1_no (by rw [HA3.out]; simp), List.append_nil])
          go_wp2_with fail
          go_roundw
          case rel => exact ⟨k + 1, by omega, by go_num, by rw [HE.out]; exact HO, HB, K0⟩
          case measure => simp [intOf]; omega
        · by_cases hkq : k < q
          · have HE := Lib.hid (show prs l c (k + 1) = prs l c k ++ [⟨(k : Int), (q : Int)⟩] by rw [HSt.out, pr1_yes HXa.out (by rw [HA3.out]; simp [hkq]), HQ.out])
            go_wp2_with (at_builtin; refine append_A2 rfl (.tmp 38) (.tmp 42) rfl (w.heap.size + 1) _ (prs l c k) ⟨(k : Int), (q : Int)⟩ _ _ rfl rfl rfl HO.out (by have := HLn.out; omega) k0z ?_; intro v1 w5 hO1 hB1)
            rw [← HE.out] at hO1
            go_roundw
            case rel => exact ⟨k + 1, by omega, by go_num, hO1, HB.out.trans (hB1.mono (Nat.le_succ _)), K0.out.under (Nat.lt_succ_self _) hB1⟩
            case measure => simp [intOf]; omega
          · have HE := Lib.hid (show prs l c (k + 1) = prs l c k by rw [HSt.out, pr1_no (by rw [HA3.out]; simp [hkq]), List.append_nil])
            go_wp2_with fail
            go_roundw
            case rel => exact ⟨k + 1, by omega, by go_num, by rw [HE.out]; exact HO, HB, K0⟩
            case measure => simp [intOf]; omega
      · have HE := Lib.hid (show prs l c (k + 1) = prs l c k by rw [HSt.out, pr1_no (by rw [HA.out, hs]; simp), List.append_nil])
        go_wp2_with fail
        have qk0a := fun d os => cell_regrown k0a d os
        have qk0b := fun d os => cell_regrown k0b d os
        have qk0c := fun d os => cell_regrown k0c d os
        have qk0d := fun d os => cell_regrown k0d d os
        have qc0 := fun d os => cell_regrown c0 d os
        have qc1 := fun d os => cell_regrown c1 d os
        have qc2 := fun d os => cell_regrown c2 d os
        have qc3 := fun d os => cell_regrown c3 d os
        refine wp_region_quiet_below (by kernel_rfl) (by kernel_rfl) ?_
        repeat (first | go_big_quiet_step ((fail)) | quiet_step ((fail)))
        refine wpQuiet_nil ?_
        intro w3 hw2
        have b : Below wr.heap.size wr w3 := by obtain ⟨r, hr⟩ := hw2; rw [hr]; exact below_regrown _ _ _
        clear hw2 qc0 qc1 qc2 qc3 qk0a qk0b qk0c qk0d
        have Sw3 := Lib.hid b.size
        have HB := Lib.hid (chain0 (w := w) (by repeat (first | with_reducible exact Below.refl _ _ | with_reducible exact HB.out | with_reducible apply Below.drew | with_reducible apply bdN | with_reducible refine Below.alloc ?_ (by first | exact Nat.le_refl _ | with_reducible exact HB.out.size | omega | (simp; done) | (simp; omega) | (have := HB.out.size; simp at *; omega)) _ | with_reducible refine Below.setCell ?_ (by first | exact Nat.le_refl _ | with_reducible exact HB.out.size | omega | (simp; done) | (simp; omega) | (have := HB.out.size; simp at *; omega)) _)) b)
        have HO := Lib.hid (OwnA2.below (by repeat (first | with_reducible exact HO.out | with_reducible apply OwnA2.drewN | with_reducible apply OwnA2.drew | with_reducible apply OwnA2.alloc)) b)
        have K0 : Hid (Box _ (w.heap.size) (c)) := Lib.hid (Box.below (by repeat (first | with_reducible exact K0.out | with_reducible apply Box.drewN | with_reducible apply Box.drew | (with_reducible refine Box.newAt ?_ ?_ <;> first | (simp; done) | rfl) | with_reducible apply Box.alloc)) b)
        try clear k0a k0b k0c k0d k0z
        have k0z := K0.out.lt
        obtain ⟨k0a, k0b, k0c, k0d⟩ := K0.out.cell
        clear b
        clear c0 c1 c2 c3 he
        go_wp2_with fail
        go_roundw
        case rel => exact ⟨k + 1, by omega, by go_num, by rw [HE.out]; exact HO, HB, K0⟩
        case measure => simp [intOf]; omega
    · obtain rfl : k = n := by omega
      go_wp2_with fail
      go_ret
      exact ⟨_, rfl, HO.out.base (Nat.le_succ _), HB.out⟩

set_option maxRecDepth 100000 in
set_option maxHeartbeats 2000000 in
theorem makes_line (l : List Cd) (c : Cd) (p : Option Addr) (n cp : Nat) (w : World) (hn : l.length = n) (hl : n ≤ 1000) (hr : Rd w p (flat l)) (hok : l.all Cd.ok = true) (hc : c.ok = true) (hs : sorted l) :
    Calls Try.prog 23 #[.slice p n cp, c.val] w fun e w' => e = .returned (.bool (decide (0 < thr l c n))) ∧ Below w.heap.size w w' := by
  have HN := Lib.hid hn
  have HR := Lib.hid hr
  have HS := Lib.hid hs
  have HK := Lib.hid hok
  have HC := Lib.hid hc
  clear hn hr hs hok hc
  go_enter Try.func23, Try.ntmps23
  go_wp2_with fail
  refine (pairs_with l c p n cp _ HN.out hl (by repeat (first | with_reducible exact HR.out | with_reducible apply Rd.drewN | with_reducible apply Rd.drew | with_reducible apply Rd.alloc)) HK.out HC.out HS.out).mono ?_
  rintro e w1 ⟨u, rfl, hu, b⟩
  obtain ⟨p1, c1, rfl, _⟩ := hu.form
  clear hu
  obtain ⟨m, hm⟩ : ∃ m, (prs l c n).length = m := ⟨_, rfl⟩
  have HM := Lib.hid hm
  rw [hm]
  clear hm
  have Sw1 := Lib.hid b.size
  have HB := Lib.hid (chain0 (w := w) (by repeat (first | with_reducible exact Below.refl _ _ | with_reducible exact HB.out | with_reducible apply Below.drew | with_reducible apply bdN | with_reducible refine Below.alloc ?_ (by first | exact Nat.le_refl _ | with_reducible exact HB.out.size | omega | (simp; done) | (simp; omega) | (have := HB.out.size; simp at *; omega)) _ | with_reducible refine Below.setCell ?_ (by first | exact Nat.le_refl _ | with_reducible exact HB.out.size | omega | (simp; done) | (simp; omega) | (have := HB.out.size; simp at *; omega)) _)) b)
  have HR := Lib.hid (Rd.below (by repeat (first | with_reducible exact HR.out | with_reducible apply Rd.drewN | with_reducible apply Rd.drew | with_reducible apply Rd.alloc)) b)
  have K0 : Hid (Box _ (w.heap.size) (c)) := Lib.hid (Box.below (by repeat (first | with_reducible exact K0.out | with_reducible apply Box.drewN | with_reducible apply Box.drew | (with_reducible refine Box.newAt ?_ ?_ <;> first | (simp; done) | rfl) | with_reducible apply Box.alloc)) b)
  try clear k0a k0b k0c k0d k0z
  have k0z := K0.out.lt
  obtain ⟨k0a, k0b, k0c, k0d⟩ := K0.out.cell
  clear b
  go_wp2_with fail
  go_ret
  exact ⟨ret_bool (by rw [← prs_len, HM.out]; simp), HB.out⟩
end Go.Proofs.Ytghfplmpfgkmeaa.cards

/- ChanceBlocked: mathematics, and what a hand blocks. -/
namespace Go.Proofs.Ytghfplmpfgkmeaa.chance
open Go.RowKit
open cards reg
set_option linter.unusedVariables false

theorem there_iff {l : List Cd} {t : Cd} (hs : sorted l) (hok : l.all Cd.ok = true) (ht : t.ok = true) : there l t = true ↔ t ∈ l := by
  constructor
  · intro h
    obtain ⟨z, hz, hn⟩ := of_decide_eq_true h
    have e := num_inj (ok_at hok hz) ht hn
    subst e
    exact List.mem_of_getElem? hz
  · intro h
    obtain ⟨k, hk⟩ := List.mem_iff_getElem?.1 h
    exact ((place_is hs hk).1 rfl).1
theorem cdAt_okN {n : Int} (h0 : 0 ≤ n) (h1 : n ≤ 80) : (cdAt n).ok = true := Cd.mk_ok (by unfold cdAt; simp only; omega)
theorem cdAt_numN {n : Int} (h0 : 0 ≤ n) (h1 : n ≤ 80) : num (cdAt n) = n := by unfold num cdAt; simp only; omega
theorem below_snoc {k : Nat} (hk : k ≤ 80) : ∀ l : List Cd, l.all Cd.ok = true → (l.filter (fun x => decide (num x < ((k + 1 : Nat) : Int)))).length = (l.filter (fun x => decide (num x < (k : Int)))).length + (l.filter (fun z => same (cdAt (k : Int)) z)).length
  | [], _ => rfl
  | x :: r, h => by
    simp only [List.all_cons, Bool.and_eq_true] at h
    have ih := below_snoc hk r h.2
    have hn := cdAt_numN (n := (k : Int)) (by omega) (by omega)
    have hsame : same (cdAt (k : Int)) x = decide (num x = (k : Int)) := by
      rw [same_num (cdAt_okN (by omega) (by omega)) h.1, hn]
      exact decide_eq_decide.2 ⟨fun h => h.symm, fun h => h.symm⟩
    rw [List.filter_cons, List.filter_cons, List.filter_cons, hsame]
    by_cases h1 : num x < (k : Int)
    · have h2 : num x < ((k + 1 : Nat) : Int) := by omega
      have h3 : ¬ num x = (k : Int) := by omega
      rw [decide_eq_true h1, decide_eq_true h2, decide_eq_false h3]
      simp only [if_true, List.length_cons, Bool.false_eq_true, if_false]
      omega
    · by_cases h3 : num x = (k : Int)
      · have h2 : num x < ((k + 1 : Nat) : Int) := by omega
        rw [decide_eq_false h1, decide_eq_true h2, decide_eq_true h3]
        simp only [if_true, List.length_cons, Bool.false_eq_true, if_false]
        omega
      · have h2 : ¬ num x < ((k + 1 : Nat) : Int) := by omega
        rw [decide_eq_false h1, decide_eq_false h2, decide_eq_false h3]
        simp only [Bool.false_eq_true, if_false]
        omega
theorem rst_count {l : List Cd} (hs : sorted l) (hok : l.all Cd.ok = true) : ∀ k : Nat, k ≤ 81 → (rst l k).length + (l.filter (fun x => decide (num x < (k : Int)))).length = k
  | 0, _ => by
    have : l.filter (fun x => decide (num x < ((0 : Nat) : Int))) = [] := List.filter_eq_nil_iff.2 fun x hx hc => by
      have h1 := (num_bd (List.all_eq_true.1 hok x hx)).1
      have h2 := of_decide_eq_true hc
      omega
    rw [this]; rfl
  | k + 1, hk => by
    have ih := rst_count hs hok k (by omega)
    have hko := cdAt_okN (n := (k : Int)) (by omega) (by omega)
    rw [below_snoc (by omega) l hok, filter_same _ _ hs]
    cases ht : there l (cdAt (k : Int))
    · rw [rst_yes ht, if_neg (fun hm => by rw [(there_iff hs hok hko).2 hm] at ht; cases ht), List.length_append]
      simp only [List.length_cons, List.length_nil]
      omega
    · rw [rst_no ht, if_pos ((there_iff hs hok hko).1 ht)]
      omega
/-- A hand and its rest are all cards. -/
theorem rst_81 {l : List Cd} (hs : sorted l) (hok : l.all Cd.ok = true) : (rst l 81).length + l.length = 81 := by
  have h := rst_count hs hok 81 (Nat.le_refl _)
  have e : l.filter (fun x => decide (num x < ((81 : Nat) : Int))) = l := List.filter_eq_self.2 fun x hx => decide_eq_true (by
    have h1 := (num_bd (List.all_eq_true.1 hok x hx)).2
    omega)
  rw [e] at h
  exact h

/-- Is the only card that is drawn blocked by a hand? -/
def blk1 (l : List Cd) : List Cd → Bool
  | [x] => decide (0 < thr l x l.length)
  | _ => false

end Go.Proofs.Ytghfplmpfgkmeaa.chance

/- A hand with cards put to it: mathematics. -/
namespace Go.Proofs.Ytghfplmpfgkmeaa.chance
open Go.RowKit
open cards reg
set_option linter.unusedVariables false

theorem behind_ifN {l : List Cd} {t : Cd} {j : Nat} (hs : sorted l) (hok : l.all Cd.ok = true) (ht : t.ok = true) : t ∈ l.drop (j + 1) ↔ there l t = true ∧ j < less l t := by
  rw [mem_drop]
  constructor
  · rintro ⟨k, hk, h⟩
    obtain ⟨h1, h2⟩ := (place_is hs h).1 rfl
    exact ⟨h1, by omega⟩
  · rintro ⟨h1, h2⟩
    obtain ⟨z, hz, hn⟩ := of_decide_eq_true h1
    have e := num_inj (ok_at hok hz) ht hn
    subst e
    exact ⟨_, h2, hz⟩
/-- Do two cards make a line with d? -/
def Mx (d x y : Cd) : Nat := nat (!same x d && same (third d x) y)
def smM (d x : Cd) (l : List Cd) : Nat := (l.map (Mx d x)).sum
def psM (d : Cd) : List Cd → Nat
  | [] => 0
  | x :: r => smM d x r + psM d r
theorem third_third {d x : Cd} (hx : x.ok = true) : third d (third d x) = x := by
  obtain ⟨⟨x1, x2⟩, ⟨x3, x4⟩, ⟨x5, x6⟩, x7, x8⟩ := Cd.bd hx
  obtain ⟨a, b, c, e⟩ := x
  unfold third
  simp only [Cd.mk.injEq] at *
  omega
theorem Mx_iff {d x y : Cd} (hx : x.ok = true) (hy : y.ok = true) (hd : d.ok = true) : (!same x d && same (third d x) y) = (!same y d && same (third d y) x) := by
  have key : ∀ {u v : Cd}, u.ok = true → v.ok = true → (!same u d && same (third d u) v) = true → (!same v d && same (third d v) u) = true := by
    intro u v hu hv h
    simp only [Bool.and_eq_true, Bool.not_eq_true', same_iff] at h ⊢
    obtain ⟨h1, h2⟩ := h
    refine ⟨?_, by rw [← h2]; exact third_third hu⟩
    cases hs : same v d
    · rfl
    · rw [same_iff] at hs
      have h3 := third_third (d := d) hu
      rw [h2, hs] at h3
      have h4 : third d d = d := by
        obtain ⟨⟨x1, x2⟩, ⟨x3, x4⟩, ⟨x5, x6⟩, x7, x8⟩ := Cd.bd hd
        obtain ⟨a, b, c, e⟩ := d
        unfold third
        simp only [Cd.mk.injEq] at *
        omega
      rw [h4] at h3
      rw [← h3, same_iff.2 rfl] at h1
      cases h1
  rw [Bool.eq_iff_iff]
  exact ⟨key hx hy, key hy hx⟩
theorem Mx_comm {d x y : Cd} (hx : x.ok = true) (hy : y.ok = true) (hd : d.ok = true) : Mx d x y = Mx d y x := by unfold Mx; rw [Mx_iff hx hy hd]
theorem smM_app (d x : Cd) (a b : List Cd) : smM d x (a ++ b) = smM d x a + smM d x b := by simp [smM]
/-- One card more among others makes so many lines more. -/
theorem psM_ins {d c : Cd} (hd : d.ok = true) (hc : c.ok = true) : ∀ (a b : List Cd), a.all Cd.ok = true → psM d (a ++ (c :: b)) = psM d (a ++ b) + smM d c (a ++ b)
  | [], b, _ => by simp only [List.nil_append, psM]; omega
  | x :: a, b, h => by
    simp only [List.all_cons, Bool.and_eq_true] at h
    have ih := psM_ins hd hc a b h.2
    have e1 := smM_app d x a (c :: b)
    have e2 := smM_app d x a b
    have e4 := Mx_comm h.1 hc hd
    have c1 : smM d x (c :: b) = Mx d x c + smM d x b := by simp [smM]
    have c2 : smM d c (x :: (a ++ b)) = Mx d c x + smM d c (a ++ b) := by simp [smM]
    simp only [List.cons_append, psM, ih, c2]
    omega
theorem smM_mem {d c : Cd} : ∀ l : List Cd, sorted l → smM d c l = if same c d = false ∧ third d c ∈ l then 1 else 0
  | l, hs => by
    have h := filter_same (third d c) l hs
    have e : ∀ m : List Cd, smM d c m = if same c d = false then (m.filter (fun z => same (third d c) z)).length else 0 := by
      intro m
      induction m with
      | nil => simp [smM]
      | cons x m ih =>
        simp only [smM, List.map_cons, List.sum_cons] at *
        rw [ih, List.filter_cons]
        unfold Mx nat
        cases same c d <;> cases same (third d c) x <;> simp <;> omega
    rw [e, h]
    by_cases h1 : same c d = false <;> by_cases h2 : third d c ∈ l <;> simp [h1, h2]
theorem thr_psM {l : List Cd} {d : Cd} (hs : sorted l) (hok : l.all Cd.ok = true) (hd : d.ok = true) : ∀ (e i : Nat), i + e = l.length → ((psM d (l.drop i) : Nat) : Int) + thr l d i = thr l d l.length
  | 0, i, h => by rw [List.drop_of_length_le (by omega), show i = l.length by omega]; simp [psM]
  | e + 1, i, h => by
    have hx : l[i]? = some (l[i]'(by omega)) := List.getElem?_eq_getElem (by omega)
    obtain ⟨x, hxe⟩ : ∃ x, l[i]'(by omega) = x := ⟨_, rfl⟩
    rw [hxe] at hx
    have ih := thr_psM hs hok hd e (i + 1) (by omega)
    have hd1 : l.drop i = x :: l.drop (i + 1) := by rw [List.drop_eq_getElem_cons (by omega), hxe]
    have hsm := smM_mem (d := d) (c := x) (l.drop (i + 1)) (drop_sorted hs _)
    have hline : one (lineTo l d i l.length) = ((smM d x (l.drop (i + 1)) : Nat) : Int) := by
      rw [hsm, lineTo_all hx]
      have hb := behind_ifN (j := i) (t := third d x) hs hok (third_ok d x)
      by_cases h1 : same x d = false
      · by_cases h2 : third d x ∈ l.drop (i + 1)
        · obtain ⟨h3, h4⟩ := hb.1 h2
          rw [if_pos ⟨h1, h2⟩, h1, h3, decide_eq_true h4]; rfl
        · rw [if_neg (fun hc => h2 hc.2), h1]
          have h5 : (there l (third d x) && decide (i < less l (third d x))) = false := by
            cases h6 : there l (third d x)
            · rfl
            · cases h7 : decide (i < less l (third d x))
              · rfl
              · exact absurd (hb.2 ⟨h6, of_decide_eq_true h7⟩) h2
          rw [Bool.not_false, Bool.true_and, h5]; rfl
      · rw [if_neg (fun hc => h1 hc.1)]
        have h8 : same x d = true := by simpa using h1
        rw [h8]; rfl
    have hts : thr l d (i + 1) = thr l d i + one (lineTo l d i l.length) := rfl
    rw [hts, hline] at ih
    rw [hd1]
    simp only [psM]
    omega
theorem thr_is {l : List Cd} {d : Cd} (hs : sorted l) (hok : l.all Cd.ok = true) (hd : d.ok = true) : thr l d l.length = ((psM d l : Nat) : Int) := by
  have h := thr_psM hs hok hd l.length 0 (by omega)
  rw [List.drop_zero] at h
  have h0 : thr l d 0 = 0 := rfl
  omega
end Go.Proofs.Ytghfplmpfgkmeaa.chance

/- A card that is put into a hand; the hand of all cards of a list: what they are. -/
namespace Go.Proofs.Ytghfplmpfgkmeaa.cards
open Go.RowKit
set_option linter.unusedVariables false

/-- The hand with one more card, or the same if it is there. -/
def put (l : List Cd) (c : Cd) : List Cd := if there l c = true then l else l.take (less l c) ++ c :: l.drop (less l c)
theorem less_cons (x : Cd) (r : List Cd) (c : Cd) : less (x :: r) c = if num x < num c then less r c + 1 else 0 := by
  unfold less; rw [List.takeWhile_cons]
  by_cases h : num x < num c
  · rw [if_pos (by simpa using h), if_pos h, List.length_cons]
  · rw [if_neg (by simpa using h), if_neg h]; rfl
theorem less_in : ∀ {l : List Cd} {c x : Cd} {i : Nat}, i < less l c → l[i]? = some x → num x < num c
  | [], c, x, i, h, hx => by simp at hx
  | y :: r, c, x, i, h, hx => by
    rw [less_cons] at h
    by_cases hy : num y < num c
    · rw [if_pos hy] at h
      cases i with
      | zero => simp at hx; subst hx; exact hy
      | succ i => exact less_in (l := r) (i := i) (by omega) (by simpa using hx)
    · rw [if_neg hy] at h; omega
theorem less_at : ∀ {l : List Cd} {c x : Cd}, l[less l c]? = some x → ¬ num x < num c
  | [], c, x, hx => by simp at hx
  | y :: r, c, x, hx => by
    rw [less_cons] at hx
    by_cases hy : num y < num c
    · rw [if_pos hy] at hx
      exact less_at (l := r) (by simpa using hx)
    · rw [if_neg hy] at hx
      simp at hx; subst hx; exact hy
theorem less_after {l : List Cd} {c x : Cd} {i : Nat} (hs : sorted l) (h : less l c ≤ i) (hx : l[i]? = some x) : ¬ num x < num c := by
  have hi := (List.getElem?_eq_some_iff.1 hx).1
  have hy : l[less l c]? = some l[less l c] := List.getElem?_eq_getElem (by omega)
  have h1 := less_at hy
  by_cases e : less l c = i
  · subst e; rw [hx] at hy; injection hy with hy; rw [hy]; exact h1
  · have := sorted_lt hs (show less l c < i by omega) hy hx
    omega
theorem there_mem {l : List Cd} {c : Cd} (hs : sorted l) (hok : l.all Cd.ok = true) (hc : c.ok = true) : there l c = true ↔ c ∈ l := by
  constructor
  · intro h
    obtain ⟨x, hx, hn⟩ := of_decide_eq_true h
    have := num_inj (ok_at hok hx) hc hn
    rw [← this]; exact List.mem_of_getElem? hx
  · intro h
    obtain ⟨k, hk⟩ := List.mem_iff_getElem?.1 h
    exact ((place_is (t := c) hs hk).1 rfl).1
theorem put_mem {l : List Cd} {c y : Cd} (hs : sorted l) (hok : l.all Cd.ok = true) (hc : c.ok = true) : y ∈ put l c ↔ y = c ∨ y ∈ l := by
  unfold put
  split
  · rename_i h
    have := (there_mem hs hok hc).1 h
    exact ⟨.inr, fun h => h.elim (fun e => e ▸ this) id⟩
  · rw [List.mem_append, List.mem_cons]
    conv => rhs; rw [← List.take_append_drop (less l c) l, List.mem_append]
    constructor
    · rintro (h | h | h)
      · exact .inr (.inl h)
      · exact .inl h
      · exact .inr (.inr h)
    · rintro (h | h | h)
      · exact .inr (.inl h)
      · exact .inl h
      · exact .inr (.inr h)
theorem put_ok {l : List Cd} {c : Cd} (hs : sorted l) (hok : l.all Cd.ok = true) (hc : c.ok = true) : (put l c).all Cd.ok = true := by
  rw [List.all_eq_true] at hok ⊢
  intro x hx
  rcases (put_mem hs (List.all_eq_true.2 hok) hc).1 hx with rfl | h
  · exact hc
  · exact hok x h
theorem put_sorted {l : List Cd} {c : Cd} (hs : sorted l) (hok : l.all Cd.ok = true) (hc : c.ok = true) : sorted (put l c) := by
  unfold put
  split
  · exact hs
  · rename_i h
    have hlt : ∀ x ∈ l.take (less l c), num x < num c := by
      intro x hx
      obtain ⟨i, hi⟩ := List.mem_iff_getElem?.1 hx
      rw [List.getElem?_take] at hi
      split at hi
      · rename_i h1; exact less_in h1 hi
      · cases hi
    have hgt : ∀ x ∈ l.drop (less l c), num c < num x := by
      intro x hx
      obtain ⟨i, hi⟩ := List.mem_iff_getElem?.1 hx
      rw [List.getElem?_drop] at hi
      have h1 := less_after hs (Nat.le_add_right _ _) hi
      have h2 : num x ≠ num c := fun e => h (by
        have := num_inj (ok_at hok hi) hc e
        subst this
        exact (there_mem hs hok hc).2 (List.mem_of_getElem? hi))
      omega
    unfold sorted at hs ⊢
    rw [List.pairwise_append]
    refine ⟨List.Pairwise.sublist (List.take_sublist _ _) hs, List.pairwise_cons.2 ⟨hgt, List.Pairwise.sublist (List.drop_sublist _ _) hs⟩, ?_⟩
    intro x hx y hy
    rcases List.mem_cons.1 hy with rfl | hy
    · exact hlt x hx
    · have := hlt x hx; have := hgt y hy; omega
/-- Two hands with the same cards are one. -/
theorem sorted_ext : ∀ {a b : List Cd}, sorted a → sorted b → (∀ x, x ∈ a ↔ x ∈ b) → a = b
  | [], [], _, _, _ => rfl
  | [], y :: r, _, _, h => by have := (h y).2 (by simp); cases this
  | x :: r, [], _, _, h => by have := (h x).1 (by simp); cases this
  | x :: r, y :: s, ha, hb, h => by
    obtain ⟨a1, a2⟩ := List.pairwise_cons.1 ha
    obtain ⟨b1, b2⟩ := List.pairwise_cons.1 hb
    have hxy : x = y := by
      rcases List.mem_cons.1 ((h x).1 (by simp)) with e | e
      · exact e
      · rcases List.mem_cons.1 ((h y).2 (by simp)) with e2 | e2
        · exact e2.symm
        · have h1 := b1 x e; have h2 := a1 y e2; omega
    subst hxy
    congr 1
    refine sorted_ext a2 b2 (fun z => ?_)
    constructor
    · intro hz
      have h1 := a1 z hz
      rcases List.mem_cons.1 ((h z).1 (List.mem_cons_of_mem _ hz)) with e | e
      · subst e; omega
      · exact e
    · intro hz
      have h1 := b1 z hz
      rcases List.mem_cons.1 ((h z).2 (List.mem_cons_of_mem _ hz)) with e | e
      · subst e; omega
      · exact e
theorem cdAt_num {n : Int} (h0 : 0 ≤ n) (h1 : n ≤ 80) : num (cdAt n) = n := by
  unfold num cdAt; simp only; omega
theorem num_cdAt {x : Cd} (h : x.ok = true) : cdAt (num x) = x := num_inj (cdAt_ok (num_bd h).1 (num_bd h).2) h (cdAt_num (num_bd h).1 (num_bd h).2)
/-- The cards of which P is true. -/
def cdsOf (P : Cd → Bool) (k : Nat) : List Cd := (nums P k).map cdAt
theorem nums_mem {P : Cd → Bool} {k : Nat} {n : Int} : n ∈ nums P k ↔ 0 ≤ n ∧ n < k ∧ P (cdAt n) = true := by
  unfold nums
  rw [List.mem_map]
  constructor
  · rintro ⟨i, hi, rfl⟩
    rw [List.mem_filter, List.mem_range] at hi
    exact ⟨by omega, by omega, hi.2⟩
  · rintro ⟨h0, h1, h2⟩
    refine ⟨n.toNat, ?_, by omega⟩
    rw [List.mem_filter, List.mem_range]
    have e : ((n.toNat : Nat) : Int) = n := by omega
    exact ⟨by omega, by rw [e]; exact h2⟩
theorem cdsOf_mem {P : Cd → Bool} {x : Cd} : x ∈ cdsOf P 81 ↔ x.ok = true ∧ P x = true := by
  unfold cdsOf
  rw [List.mem_map]
  constructor
  · rintro ⟨n, hn, rfl⟩
    obtain ⟨h0, h1, h2⟩ := nums_mem.1 hn
    exact ⟨cdAt_ok h0 (by omega), h2⟩
  · rintro ⟨h1, h2⟩
    refine ⟨num x, nums_mem.2 ⟨(num_bd h1).1, by have := (num_bd h1).2; omega, by rw [num_cdAt h1]; exact h2⟩, num_cdAt h1⟩
theorem nums_rise (P : Cd → Bool) : ∀ k : Nat, (nums P k).Pairwise (· < ·)
  | 0 => by simp [nums_zero]
  | k + 1 => by
    have ih := nums_rise P k
    cases h : P (cdAt (k : Int))
    · rw [nums_no h]; exact ih
    · rw [nums_yes h, List.pairwise_append]
      refine ⟨ih, by simp, ?_⟩
      intro a ha b hb
      have := (nums_mem.1 ha).2.1
      simp at hb; omega
theorem cdsOf_sorted (P : Cd → Bool) : sorted (cdsOf P 81) := by
  unfold sorted cdsOf
  rw [List.pairwise_map]
  refine List.Pairwise.imp_of_mem ?_ (nums_rise P 81)
  intro a b ha hb h
  obtain ⟨a0, a1, _⟩ := nums_mem.1 ha
  obtain ⟨b0, b1, _⟩ := nums_mem.1 hb
  rw [cdAt_num a0 (by omega), cdAt_num b0 (by omega)]; exact h
theorem cdsOf_yes {P : Cd → Bool} {k : Nat} (h : P (cdAt (k : Int)) = true) : cdsOf P (k + 1) = cdsOf P k ++ [cdAt (k : Int)] := by
  unfold cdsOf; rw [nums_yes h, List.map_append]; rfl
theorem cdsOf_no {P : Cd → Bool} {k : Nat} (h : P (cdAt (k : Int)) = false) : cdsOf P (k + 1) = cdsOf P k := by
  unfold cdsOf; rw [nums_no h]
theorem cdsOf_len (P : Cd → Bool) (k : Nat) : (cdsOf P k).length ≤ k := by
  unfold cdsOf; rw [List.length_map]; exact nums_len P k
/-- All cards of a list, put one after the other. -/
def allPut (l : List Cd) : List Cd := l.foldl put []
theorem allPut_snoc {l : List Cd} {k : Nat} {x : Cd} (hx : l[k]? = some x) : allPut (l.take (k + 1)) = put (allPut (l.take k)) x := by
  rw [take_snoc hx]; simp [allPut, List.foldl_append]
def isIn (l : List Cd) (x : Cd) : Bool := decide (∃ y ∈ l, num y = num x)
theorem isIn_iff {l : List Cd} {x : Cd} (hok : l.all Cd.ok = true) (hx : x.ok = true) : isIn l x = true ↔ x ∈ l := by
  unfold isIn
  rw [decide_eq_true_eq]
  constructor
  · rintro ⟨y, hy, e⟩
    have := num_inj (List.all_eq_true.1 hok y hy) hx e
    rw [← this]; exact hy
  · intro h; exact ⟨x, h, rfl⟩
theorem fold_put : ∀ (l m : List Cd), l.all Cd.ok = true → sorted m → m.all Cd.ok = true → sorted (l.foldl put m) ∧ (l.foldl put m).all Cd.ok = true ∧ ∀ x, x ∈ l.foldl put m ↔ x ∈ m ∨ x ∈ l
  | [], m, _, hs, hok => ⟨hs, hok, fun x => by simp⟩
  | y :: r, m, h, hs, hok => by
    rw [List.all_cons, Bool.and_eq_true] at h
    obtain ⟨h1, h2, h3⟩ := fold_put r (put m y) h.2 (put_sorted hs hok h.1) (put_ok hs hok h.1)
    refine ⟨h1, h2, fun x => ?_⟩
    rw [List.foldl_cons, h3, put_mem hs hok h.1, List.mem_cons]
    constructor
    · rintro ((h | h) | h)
      · exact .inr (.inl h)
      · exact .inl h
      · exact .inr (.inr h)
    · rintro (h | h | h)
      · exact .inl (.inr h)
      · exact .inl (.inl h)
      · exact .inr h
theorem allPut_is {l : List Cd} (hok : l.all Cd.ok = true) : sorted (allPut l) ∧ (allPut l).all Cd.ok = true ∧ ∀ x, x ∈ allPut l ↔ x ∈ l := by
  obtain ⟨h1, h2, h3⟩ := fold_put l [] hok List.Pairwise.nil rfl
  exact ⟨h1, h2, fun x => by rw [allPut, h3]; simp⟩
theorem allPut_cds {l : List Cd} (hok : l.all Cd.ok = true) : allPut l = cdsOf (isIn l) 81 := by
  obtain ⟨h1, h2, h3⟩ := allPut_is hok
  refine sorted_ext h1 (cdsOf_sorted _) (fun x => ?_)
  rw [h3, cdsOf_mem]
  constructor
  · intro h
    have hx := List.all_eq_true.1 hok x h
    exact ⟨hx, (isIn_iff hok hx).2 h⟩
  · rintro ⟨hx, h⟩; exact (isIn_iff hok hx).1 h
/-- A hand of cards has at most 81. -/
theorem sorted_81 {l : List Cd} (hs : sorted l) (hok : l.all Cd.ok = true) : l.length ≤ 81 := by
  have e : l = cdsOf (isIn l) 81 := by
    refine sorted_ext hs (cdsOf_sorted _) (fun x => ?_)
    rw [cdsOf_mem]
    constructor
    · intro h
      have hx := List.all_eq_true.1 hok x h
      exact ⟨hx, (isIn_iff hok hx).2 h⟩
    · rintro ⟨hx, h⟩; exact (isIn_iff hok hx).1 h
  rw [e]; exact cdsOf_len _ _
end Go.Proofs.Ytghfplmpfgkmeaa.cards

/- What a hand blocks, and what is free: pairs of cards, as sets. -/
namespace Go.Proofs.Ytghfplmpfgkmeaa.cards
open Go.RowKit
set_option linter.unusedVariables false

/-- Is y the third card of the i-th card and one before it, i below k, or i = k and that one below j? -/
noncomputable def thirds (l : List Cd) (k j : Nat) (y : Cd) : Bool := @decide (∃ (i m : Nat) (a b : Cd), m < i ∧ (i < k ∨ (i = k ∧ m < j)) ∧ l[i]? = some a ∧ l[m]? = some b ∧ third a b = y) (Classical.propDecidable _)
theorem thirds_iff {l : List Cd} {k j : Nat} {y : Cd} : thirds l k j y = true ↔ ∃ (i m : Nat) (a b : Cd), m < i ∧ (i < k ∨ (i = k ∧ m < j)) ∧ l[i]? = some a ∧ l[m]? = some b ∧ third a b = y := by simp [thirds]
theorem thirds_zero (l : List Cd) (y : Cd) : false = thirds l 0 0 y := by
  symm; rw [Bool.eq_false_iff]; intro h
  obtain ⟨i, m, a, b, h1, h2, _⟩ := thirds_iff.1 h
  omega
theorem thirds_step {l : List Cd} {k j : Nat} {a b : Cd} (hj : j < k) (ha : l[k]? = some a) (hb : l[j]? = some b) (y : Cd) : (same y (third a b) || thirds l k j y) = thirds l k (j + 1) y := by
  rw [Bool.eq_iff_iff, Bool.or_eq_true, same_iff, thirds_iff, thirds_iff]
  constructor
  · rintro (rfl | ⟨i, m, x, z, h1, h2, h3⟩)
    · exact ⟨k, j, a, b, hj, .inr ⟨rfl, by omega⟩, ha, hb, rfl⟩
    · exact ⟨i, m, x, z, h1, by omega, h3⟩
  · rintro ⟨i, m, x, z, h1, h2, hx, hz, h3⟩
    by_cases e : i = k ∧ m = j
    · obtain ⟨rfl, rfl⟩ := e
      rw [ha] at hx; rw [hb] at hz
      injection hx with hx; injection hz with hz
      subst hx; subst hz
      exact .inl h3.symm
    · exact .inr ⟨i, m, x, z, h1, by omega, hx, hz, h3⟩
theorem thirds_next (l : List Cd) (k : Nat) (y : Cd) : thirds l k k y = thirds l (k + 1) 0 y := by
  rw [Bool.eq_iff_iff, thirds_iff, thirds_iff]
  constructor
  · rintro ⟨i, m, x, z, h1, h2, h3⟩; exact ⟨i, m, x, z, h1, by omega, h3⟩
  · rintro ⟨i, m, x, z, h1, h2, h3⟩; exact ⟨i, m, x, z, h1, by omega, h3⟩
theorem thirds_all {l : List Cd} {n : Nat} {y : Cd} (hn : l.length = n) (hs : sorted l) (hok : l.all Cd.ok = true) (hy : y.ok = true) : thirds l n 0 y = decide (0 < thr l y n) := by
  rw [Bool.eq_iff_iff, thirds_iff, decide_eq_true_eq, thr_pos hn hs hok hy]
  constructor
  · rintro ⟨i, m, a, b, h1, h2, ha, hb, rfl⟩
    refine ⟨m, i, b, a, h1, hb, ha, ?_⟩
    have hlt := sorted_lt hs h1 hb ha
    have hne : same b a = false := by
      rw [Bool.eq_false_iff]; intro hh; have h5 := same_iff.1 hh; rw [h5] at hlt; omega
    unfold line
    rw [hne, third_comm b a]; simp [same]
  · rintro ⟨i, j, x, z, hij, hx, hz, hl⟩
    have hj := (List.getElem?_eq_some_iff.1 hz).1
    unfold line at hl
    have e := same_iff.1 ((Bool.and_eq_true _ _).mp hl).2
    exact ⟨j, i, z, x, hij, .inl (by omega), hz, hx, by rw [third_comm]; exact e⟩
/-- Blocked, and not struck yet: none of the first k cards. -/
noncomputable def left (l : List Cd) (n k : Nat) (y : Cd) : Bool := thirds l n 0 y && !((l.take k).any fun x => same y x)
theorem left_zero (l : List Cd) (n : Nat) (y : Cd) : thirds l n 0 y = left l n 0 y := by simp [left]
theorem left_step {l : List Cd} {n k : Nat} {x : Cd} (hx : l[k]? = some x) (y : Cd) : (!same y x && left l n k y) = left l n (k + 1) y := by
  unfold left
  rw [take_snoc hx, List.any_append, show [x].any (fun z => same y z) = same y x by simp]
  cases thirds l n 0 y <;> cases same y x <;> cases (l.take k).any (fun x => same y x) <;> rfl
/-- Is the card blocked by a hand? -/
noncomputable def blk (l : List Cd) (y : Cd) : Bool := !there l y && decide (0 < thr l y l.length)
noncomputable def fre (l : List Cd) (y : Cd) : Bool := !there l y && !decide (0 < thr l y l.length)
theorem left_all {l : List Cd} {n : Nat} {y : Cd} (hn : l.length = n) (hs : sorted l) (hok : l.all Cd.ok = true) (hy : y.ok = true) : left l n n y = blk l y := by
  unfold left blk
  rw [thirds_all hn hs hok hy, hn, Bool.and_comm]
  congr 2
  rw [← hn, List.take_length, Bool.eq_iff_iff, there_mem hs hok hy, List.any_eq_true]
  constructor
  · rintro ⟨x, h1, h2⟩; rw [same_iff.1 h2]; exact h1
  · intro h; exact ⟨y, h, same_iff.2 rfl⟩
theorem fre_blk (l : List Cd) (y : Cd) : (!there l y && !blk l y) = fre l y := by
  unfold blk fre
  cases there l y <;> simp
end Go.Proofs.Ytghfplmpfgkmeaa.cards

/- Maps from cards to truth values that a call makes. -/
namespace Go.Proofs.Ytghfplmpfgkmeaa.cards
open Go.RowKit
open Go.Maps (Keyed)
set_option linter.unusedVariables false

theorem laidOutM : laidOutB Try.prog = true := by kernel_rfl
theorem rowM : 32 < (Try.prog).types.size := of_decide_eq_true (by kernel_rfl)
theorem wideM : (match (Try.prog).underlying 32 with | some (.array _ _) | some (.struct _) => true | _ => false) = true := by rw [Try.underlying32]
theorem mlaw : Keyed Try.prog 32 := Keyed.of_law (deep_law_laid laidOutM (m := 2) (by omega) rowM (by kernel_rfl) wideM)
theorem key_litsN (d : Nat) (x : Cd) (h : x.ok = true) : (Try.prog).keyLits (d + 2) 32 x.val.cells.toList = some (lits x) := by
  obtain ⟨⟨a1, a2⟩, ⟨b1, b2⟩, ⟨c1, c2⟩, d1, d2⟩ := Cd.bd h
  have w1 := wf_small a1 (by omega)
  have w2 := wf_small b1 (by omega)
  have w3 := wf_small c1 (by omega)
  have w4 := wf_small d1 (by omega)
  have ce : (Try.prog).cellsOf 3 = 1 := by kernel_rfl
  have ct : (Try.prog).cellsOf 32 = 4 := by kernel_rfl
  simp [Program.keyLits, Try.underlying32, Try.underlying3, Value.cells, ce, ct, w1, w2, w3, w4, show List.range 4 = [0, 1, 2, 3] from rfl, lits]
/-- What a card reads as, as a key. -/
def kl (x : Cd) : Lit := .string (keyBytes (lits x))
theorem mkey {x : Cd} (h : x.ok = true) : keyOf Try.prog 32 x.val = some (kl x) := by
  obtain ⟨d, hd⟩ : ∃ d, (Try.prog).types.size + 1 = d + 2 := ⟨(Try.prog).types.size - 1, by have := rowM; omega⟩
  have ht : (Try.prog).keyType 32 = true := by kernel_rfl
  have ct : (Try.prog).cellsOf 32 = 4 := by kernel_rfl
  have hf : x.val.formed Try.prog 32 = true := by simp [Value.formed, Try.underlying32, ct]
  unfold keyOf
  rw [Try.underlying32]
  simp only [ht, hf, Bool.and_self, if_true, hd, key_litsN d x h]
  rfl
theorem kl_key {x : Cd} (h : x.ok = true) : WideAt.IsKeyLit (kl x) := mlaw.key (mkey h)
theorem kl_inj {x y : Cd} (hx : x.ok = true) (hy : y.ok = true) (h : kl x = kl y) : x = y := by
  have h1 := mkey hx
  have h2 := mkey hy
  rw [← h] at h2
  have e := mlaw.inj h1 h2
  obtain ⟨a, b, c, d⟩ := x
  obtain ⟨a', b', c', d'⟩ := y
  simp at e
  obtain ⟨rfl, rfl, rfl, rfl⟩ := e
  rfl

/-- Block g is a map of at most m entries; S tells the cards at which it holds true. -/
def MapB (w : World) (g m : Nat) (S : Cd → Bool) : Prop := ∃ D : DataW Unit, w.ownsMap Try.prog 32 (plainElem Try.prog 4) g m D ∧ ∀ x : Cd, x.ok = true → D.atKey (kl x) (.lit (.bool false)) = .lit (.bool (S x))
theorem MapB.made (w : World) : MapB (w.alloc (.map #[] 0)) w.heap.size 0 (fun _ => false) := ⟨_, World.ownsMap_made w Try.prog _ _, fun x _ => rfl⟩
theorem MapB.lt {w : World} {g m : Nat} {S : Cd → Bool} (h : MapB w g m S) : g < w.heap.size := by obtain ⟨D, h1, _⟩ := h; exact h1.lt
theorem MapB.kept {w w' : World} {g m : Nat} {S : Cd → Bool} {row : Option Nat} (h : MapB w g m S) (hg : w.grownBy w' row) (hne : some g ≠ row) : MapB w' g m S := by
  obtain ⟨D, h1, h2⟩ := h
  exact ⟨D, h1.kept hg hne, h2⟩
theorem MapB.below {w w1 : World} {g m : Nat} {S : Cd → Bool} (h : MapB w g m S) (hb : Below w.heap.size w w1) : MapB w1 g m S :=
  h.kept (row := none) ⟨hb.os, hb.tape, hb.output, hb.size, fun j hj _ => hb.block j hj⟩ (by simp)
theorem MapB.alloc {w : World} {g m : Nat} {S : Cd → Bool} (h : MapB w g m S) (o : Obj) : MapB (w.alloc o) g m S := h.kept (World.grownBy_alloc w o none) (by simp)
theorem MapB.drew {w : World} {g m : Nat} {S : Cd → Bool} (h : MapB w g m S) : MapB w.drew g m S := h
theorem MapB.drewN {w : World} {g m : Nat} {S : Cd → Bool} (h : MapB w g m S) (n : Nat) : MapB (w.drewN n) g m S := h
theorem MapB.mono {w : World} {g m m' : Nat} {S : Cd → Bool} (h : MapB w g m S) (hm : m ≤ m') : MapB w g m' S := by
  obtain ⟨D, h1, h2⟩ := h
  exact ⟨D, h1.mono hm, h2⟩
theorem MapB.ext {w : World} {g m : Nat} {S S' : Cd → Bool} (h : MapB w g m S) (hs : ∀ x, x.ok = true → S x = S' x) : MapB w g m S' := by
  obtain ⟨D, h1, h2⟩ := h
  exact ⟨D, h1, fun x hx => by rw [h2 x hx, hs x hx]⟩
theorem plainElem_bool_inv {H : Type} {P : Program} {e : TypeId} (he : P.underlying e = some .bool) {v : Value} {z : DataW H × List MemPlace} (h : plainElem P e v = some z) : ∃ b, v = .bool b ∧ z = (.lit (.bool b), []) := by
  unfold plainElem at h
  rw [he] at h
  cases v <;> simp at h
  exact ⟨_, rfl, h.symm⟩
theorem zeroB (w : World) : (zeroValue 4).run Try.prog w = .ok (.bool false) w := by kernel_rfl
end Go.Proofs.Ytghfplmpfgkmeaa.cards

/- The program's map of what a hand blocks. -/
namespace Go.Proofs.Ytghfplmpfgkmeaa.cards
open Go.RowKit
set_option linter.unusedVariables false

theorem Box.by_ {w w1 : World} {g m : Nat} {x : Cd} (h : Box w g x) (hg : w.grownBy w1 (some m)) (hne : m ≠ g) : Box w1 g x :=
  (hg.block g h.lt (fun e => hne (by injection e with e; exact e.symm))).trans h

end Go.Proofs.Ytghfplmpfgkmeaa.cards

/- The numbers of the cards of which a function value says yes. -/
namespace Go.Proofs.Ytghfplmpfgkmeaa.cards
open Go.RowKit
set_option linter.unusedVariables false

theorem OwnI.base {w : World} {B B' : Nat} {v : Value} {l : List Int} (h : OwnI w B v l) (hB : B' ≤ B) : OwnI w B' v l := by
  obtain ⟨hl, h0 | ⟨g, cap, cur, e, hb, r⟩⟩ := h
  · exact ⟨hl, .inl h0⟩
  · exact ⟨hl, .inr ⟨g, cap, cur, e, Nat.le_trans hB hb, r⟩⟩
/-- A captured slice of cards: a block of one cell. -/
def BoxH (w : World) (g : Nat) (v : Value) : Prop := w.heap[g]? = some (.cells #[v] 22)
theorem BoxH.lt {w : World} {g : Nat} {v : Value} (h : BoxH w g v) : g < w.heap.size := (Array.getElem?_eq_some_iff.1 h).1
theorem BoxH.new (w : World) (v : Value) : BoxH (w.alloc (.cells #[v] 22)) w.heap.size v := heap_alloc_new w _
theorem BoxH.below {w w1 : World} {g : Nat} {v : Value} (h : BoxH w g v) (b : Below w.heap.size w w1) : BoxH w1 g v := (b.block g h.lt).trans h
theorem BoxH.alloc {w : World} {g : Nat} {v : Value} (h : BoxH w g v) (o : Obj) : BoxH (w.alloc o) g v := (Below.heap_alloc w o g h.lt).trans h
theorem BoxH.drew {w : World} {g : Nat} {v : Value} (h : BoxH w g v) : BoxH w.drew g v := h
theorem BoxH.drewN {w : World} {g : Nat} {v : Value} (h : BoxH w g v) (n : Nat) : BoxH (w.drewN n) g v := h
theorem BoxH.cell {w : World} {g : Nat} {v : Value} (h : BoxH w g v) : w.cell? ⟨g, 0, none⟩ = some v := (cell_of_row w g 0 _ _ _ h).trans rfl
end Go.Proofs.Ytghfplmpfgkmeaa.cards

/- The numbers of the cards of which a closure says yes: blocked. -/
namespace Go.Proofs.Ytghfplmpfgkmeaa.cards
open Go.RowKit
set_option linter.unusedVariables false

end Go.Proofs.Ytghfplmpfgkmeaa.cards

/- The numbers of the cards of which a closure says yes: free. -/
namespace Go.Proofs.Ytghfplmpfgkmeaa.cards
open Go.RowKit
set_option linter.unusedVariables false

end Go.Proofs.Ytghfplmpfgkmeaa.cards

/- BlockedCards, FreeCards: the program. -/
namespace Go.Proofs.Ytghfplmpfgkmeaa.cards
open Go.RowKit
set_option linter.unusedVariables false

noncomputable def freeR (l : List Cd) : List Int × Bool := if handB l = true then (nums (fre l) 81, true) else ([], false)
noncomputable def blkR (l : List Cd) : List Int × Bool := if handB l = true then (nums (blk l) 81, true) else ([], false)
theorem freeR_len (l : List Cd) : (freeR l).1.length ≤ 1000 := by
  unfold freeR
  split
  · exact Nat.le_trans (nums_len _ _) (by omega)
  · simp
theorem blkR_len (l : List Cd) : (blkR l).1.length ≤ 1000 := by
  unfold blkR
  split
  · exact Nat.le_trans (nums_len _ _) (by omega)
  · simp

end Go.Proofs.Ytghfplmpfgkmeaa.cards

/- The numbers of the cards of which a closure says yes: anchor. -/
namespace Go.Proofs.Ytghfplmpfgkmeaa.cards
open Go.RowKit
set_option linter.unusedVariables false

end Go.Proofs.Ytghfplmpfgkmeaa.cards

/- CapLines: the program and the model alike. -/
namespace Go.Proofs.Ytghfplmpfgkmeaa.cards
open Go.RowKit
set_option linter.unusedVariables false

noncomputable def clR (l : List Cd) (c : Cd) : List A2 × Bool := if handB l = true ∧ c.ok = true ∧ there l c = false then (prs l c l.length, true) else ([], false)
theorem clR_len (l : List Cd) (c : Cd) : (clR l c).1.length ≤ 1000 := by
  unfold clR
  split
  · rename_i h
    have h1 := (handB_true.1 h.1).1
    have h2 := prs_le l c l.length
    show (prs l c l.length).length ≤ _
    omega
  · simp
end Go.Proofs.Ytghfplmpfgkmeaa.cards

/- AnchorsOf: the program and the model alike. -/
namespace Go.Proofs.Ytghfplmpfgkmeaa.cards
open Go.RowKit
set_option linter.unusedVariables false

noncomputable def ancR (l : List Cd) : List Int × Bool := if handB l = true ∧ 0 < l.length then (nums (anchor l) 81, true) else ([], false)
theorem ancR_len (l : List Cd) : (ancR l).1.length ≤ 1000 := by
  unfold ancR
  split
  · exact Nat.le_trans (nums_len _ _) (by omega)
  · simp

set_option maxRecDepth 100000 in
set_option maxHeartbeats 1000000 in
theorem l2_at (n : Int) (w : World) (h0 : 0 ≤ n) (h1 : n ≤ 80) :
    Calls Try.prog 16 #[.int .i64 n] w fun e w' => e = .returned (cdAt n).val ∧ Below w.heap.size w w' := by
  go_enter Try.func16, Try.ntmps16
  go_wp2_with fail
  exact bodyPost_ret (v := (cdAt n).val) (by simp [results, Try.results16, go_sem, cdAt, *]) rfl ⟨rfl, by repeat (first | with_reducible exact Below.refl _ _ | with_reducible exact HB.out | with_reducible apply Below.drew | with_reducible apply bdN | with_reducible refine Below.alloc ?_ (by first | exact Nat.le_refl _ | with_reducible exact HB.out.size | omega | (simp; done) | (simp; omega) | (have := HB.out.size; simp at *; omega)) _ | with_reducible refine Below.setCell ?_ (by first | exact Nat.le_refl _ | with_reducible exact HB.out.size | omega | (simp; done) | (simp; omega) | (have := HB.out.size; simp at *; omega)) _)⟩

end Go.Proofs.Ytghfplmpfgkmeaa.cards

/- IsCap: the program and the model alike. -/
namespace Go.Proofs.Ytghfplmpfgkmeaa.cards
open Go.RowKit
set_option linter.unusedVariables false

set_option maxRecDepth 100000 in
set_option maxHeartbeats 4000000 in
theorem are_cap (l : List Cd) (p : Option Addr) (n cp : Nat) (w : World) (hn : l.length = n) (hl : n ≤ 1000) (hcp : n ≤ cp) (hr : Rd w p (flat l)) (hok : l.all Cd.ok = true) (hs : sorted l) :
    Calls Try.prog 19 #[.slice p n cp] w fun e w' => e = .returned (.bool (capB l)) ∧ Below w.heap.size w w' := by
  have HN := Lib.hid hn
  have HR0 := Lib.hid hr
  have HS := Lib.hid hs
  have HK := Lib.hid hok
  clear hn hr hs hok
  go_enter Try.func19, Try.ntmps19
  go_wp2_with fail
  go_loopw [3, 4, 7] (fun _ _ i wr => ∃ k : Nat, k ≤ n ∧ i = .int .i64 k ∧ Hid (∀ j z, j < k → l[j]? = some z → (0 < thr (l.take j) z j → False)) ∧ Hid (Below w.heap.size w wr)) (fun _ _ i _ => n - (intOf i).toNat)
  case atStart => exact ⟨0, Nat.zero_le _, rfl, Lib.hid (fun j z hj => absurd hj (Nat.not_lt_zero j)), Lib.hid (by repeat (first | with_reducible exact Below.refl _ _ | with_reducible exact HB.out | with_reducible apply Below.drew | with_reducible apply bdN | with_reducible refine Below.alloc ?_ (by first | exact Nat.le_refl _ | with_reducible exact HB.out.size | omega | (simp; done) | (simp; omega) | (have := HB.out.size; simp at *; omega)) _ | with_reducible refine Below.setCell ?_ (by first | exact Nat.le_refl _ | with_reducible exact HB.out.size | omega | (simp; done) | (simp; omega) | (have := HB.out.size; simp at *; omega)) _))⟩
  case round =>
    obtain ⟨k, hk, rfl, HF, HB⟩ := hrel
    by_cases hlt : k < n
    · have HR := Lib.hid (HR0.out.below HB.out)
      obtain ⟨b, o, x, rfl, hb, hx, c0, c1, c2, c3⟩ := HR.out.card (k := k) (by rw [HN.out]; exact hlt)
      have HXa := Lib.hid hx
      have HX := Lib.hid (ok_at HK.out hx)
      have m0 : (0 : Int) ≤ (k : Int) := by omega
      have m1 : (k : Int) < (n : Int) := by omega
      have m2 : k ≤ cp := by omega
      have m3 : (k : Int) ≤ (cp : Int) := by omega
      have hkn : (l.take k).length = k := by rw [List.length_take, HN.out]; omega
      have HKN := Lib.hid hkn
      clear hx hkn
      go_wp2_with fail
      obtain ⟨w2, ew, b⟩ : ∃ wOPN : World, wOPN = (wr.alloc x.obj) ∧ Below ((wr.alloc x.obj)).heap.size ((wr.alloc x.obj)) wOPN := ⟨_, rfl, Below.refl _ _⟩
      rw [← ew]
      clear ew
      have Sw2 := Lib.hid b.size
      have HB := Lib.hid (chain0 (w := w) (by repeat (first | with_reducible exact Below.refl _ _ | with_reducible exact HB.out | with_reducible apply Below.drew | with_reducible apply bdN | with_reducible refine Below.alloc ?_ (by first | exact Nat.le_refl _ | with_reducible exact HB.out.size | omega | (simp; done) | (simp; omega) | (have := HB.out.size; simp at *; omega)) _ | with_reducible refine Below.setCell ?_ (by first | exact Nat.le_refl _ | with_reducible exact HB.out.size | omega | (simp; done) | (simp; omega) | (have := HB.out.size; simp at *; omega)) _)) b)
      have HR := Lib.hid (Rd.below (by repeat (first | with_reducible exact HR.out | with_reducible apply Rd.drewN | with_reducible apply Rd.drew | with_reducible apply Rd.alloc)) b)
      have K1 : Hid (Box _ (wr.heap.size) (x)) := Lib.hid (Box.below (by repeat (first | with_reducible exact K1.out | with_reducible apply Box.drewN | with_reducible apply Box.drew | (with_reducible refine Box.newAt ?_ ?_ <;> first | (simp; done) | rfl) | with_reducible apply Box.alloc)) b)
      try clear k1a k1b k1c k1d k1z
      have k1z := K1.out.lt
      obtain ⟨k1a, k1b, k1c, k1d⟩ := K1.out.cell
      clear b
      clear c0 c1 c2 c3
      have HP := fun w' (hw : Below w2.heap.size w2 w') => makes_line (l.take k) x (some ⟨b, o, none⟩) k cp w' HKN.out (by omega) ((HR.out.below hw).take k) (take_ok HK.out k) HX.out (take_sorted HS.out k)
      obtain ⟨t, ht⟩ : ∃ t, decide (0 < thr (l.take k) x k) = t := ⟨_, rfl⟩
      rw [ht] at HP
      have HP3 := Lib.hid HP
      have HT := Lib.hid ht
      clear HP ht
      have qk1a := fun d os => cell_regrown k1a d os
      have qk1b := fun d os => cell_regrown k1b d os
      have qk1c := fun d os => cell_regrown k1c d os
      have qk1d := fun d os => cell_regrown k1d d os
      refine wp_region_quiet_below (by kernel_rfl) (by kernel_rfl) ?_
      repeat (first | go_big_quiet_step ((go_at_call 23; with_reducible exact Calls.regrown_of (HP3.out _ (below_regrown _ _ _)))) | quiet_step ((go_at_call 23; with_reducible exact Calls.regrown_of (HP3.out _ (below_regrown _ _ _)))))
      refine wpQuiet_nil ?_
      intro w3 hw2
      have b : Below w2.heap.size w2 w3 := by obtain ⟨r, hr⟩ := hw2; rw [hr]; exact below_regrown _ _ _
      clear hw2 qk1a qk1b qk1c qk1d
      have Sw3 := Lib.hid b.size
      have HB := Lib.hid (chain0 (w := w) (by repeat (first | with_reducible exact Below.refl _ _ | with_reducible exact HB.out | with_reducible apply Below.drew | with_reducible apply bdN | with_reducible refine Below.alloc ?_ (by first | exact Nat.le_refl _ | with_reducible exact HB.out.size | omega | (simp; done) | (simp; omega) | (have := HB.out.size; simp at *; omega)) _ | with_reducible refine Below.setCell ?_ (by first | exact Nat.le_refl _ | with_reducible exact HB.out.size | omega | (simp; done) | (simp; omega) | (have := HB.out.size; simp at *; omega)) _)) b)
      have HR := Lib.hid (Rd.below (by repeat (first | with_reducible exact HR.out | with_reducible apply Rd.drewN | with_reducible apply Rd.drew | with_reducible apply Rd.alloc)) b)
      have K1 : Hid (Box _ (wr.heap.size) (x)) := Lib.hid (Box.below (by repeat (first | with_reducible exact K1.out | with_reducible apply Box.drewN | with_reducible apply Box.drew | (with_reducible refine Box.newAt ?_ ?_ <;> first | (simp; done) | rfl) | with_reducible apply Box.alloc)) b)
      try clear k1a k1b k1c k1d k1z
      have k1z := K1.out.lt
      obtain ⟨k1a, k1b, k1c, k1d⟩ := K1.out.cell
      clear b
      cases t
      · go_wp2_with fail
        go_roundw
        case rel => exact ⟨k + 1, by omega, by go_num, Lib.hid (fun j z hj hz => by
            by_cases hjk : j < k
            · exact HF.out j z hjk hz
            · obtain rfl : j = k := by omega
              have hxx := HXa.out
              rw [hz] at hxx; injection hxx with hxx; subst hxx
              exact of_decide_eq_false HT.out), HB⟩
        case measure => simp [intOf]; omega
      · go_wp2_with fail
        go_ret
        exact ⟨ret_bool (cap_stop HS.out HK.out HXa.out (of_decide_eq_true HT.out)).symm, HB.out⟩
    · obtain rfl : k = n := by omega
      go_wp2_with fail
      go_ret
      exact ⟨ret_bool (cap_all HN.out HS.out HK.out (fun j z hj hz => HF.out j z hj hz)).symm, HB.out⟩

set_option maxRecDepth 100000 in
set_option maxHeartbeats 2000000 in
theorem l3_cap (l : List Cd) (p : Option Addr) (n cp : Nat) (w : World) (hn : l.length = n) (hl : n ≤ 27) (hr : Rd w p (flat l)) (hok : l.all Cd.ok = true) (hs : sorted l) :
    Calls Try.prog 12 #[.slice p n cp] w fun e w' => e = .returned (.bool (capB l)) ∧ Below w.heap.size w w' := by
  have HN := Lib.hid hn
  have HR := Lib.hid hr
  have HT := Lib.hid (cap_list hn hs hok)
  have HS := Lib.hid hs
  have HK := Lib.hid hok
  clear hn hr hs hok
  go_enter Try.func12, Try.ntmps12
  go_wp2_with fail
  refine (l2_lines l p n cp _ HN.out hl HR.out HK.out HS.out).mono ?_
  rintro e w1 ⟨u, rfl, hu, b⟩
  obtain ⟨p1, c1, rfl, _⟩ := hu.form
  clear hu
  obtain ⟨m, hm⟩ : ∃ m, (allL l n).length = m := ⟨_, rfl⟩
  have HM := Lib.hid hm
  rw [hm]
  clear hm
  have Sw1 := Lib.hid b.size
  have HB := Lib.hid (chain0 (w := w) (by repeat (first | with_reducible exact Below.refl _ _ | with_reducible exact HB.out | with_reducible apply Below.drew | with_reducible apply bdN | with_reducible refine Below.alloc ?_ (by first | exact Nat.le_refl _ | with_reducible exact HB.out.size | omega | (simp; done) | (simp; omega) | (have := HB.out.size; simp at *; omega)) _ | with_reducible refine Below.setCell ?_ (by first | exact Nat.le_refl _ | with_reducible exact HB.out.size | omega | (simp; done) | (simp; omega) | (have := HB.out.size; simp at *; omega)) _)) b)
  clear b
  go_wp2_with fail
  go_ret
  exact ⟨ret_bool (by rw [← HT.out, HM.out, Bool.eq_iff_iff]; simp), HB.out⟩

noncomputable def capR (l : List Cd) : Bool × Bool := if handB l = true then (capB l, true) else (false, false)

end Go.Proofs.Ytghfplmpfgkmeaa.cards

/- BlockedCards, FreeCards, IsFullCap: the model; IsFullCap: the program. -/
namespace Go.Proofs.Ytghfplmpfgkmeaa.cards
open Go.RowKit
set_option linter.unusedVariables false

noncomputable def sel (l : List Cd) (b : Bool) (y : Cd) : Bool := !there l y && (decide (0 < thr l y l.length) == b)
theorem sel_true (l : List Cd) : sel l true = blk l := by funext y; unfold sel blk; cases there l y <;> cases decide (0 < thr l y l.length) <;> rfl
theorem sel_false (l : List Cd) : sel l false = fre l := by funext y; unfold sel fre; cases there l y <;> cases decide (0 < thr l y l.length) <;> rfl

set_option maxRecDepth 100000 in
set_option maxHeartbeats 4000000 in
theorem l3_cards (l : List Cd) (bl : Bool) (p : Option Addr) (n cp : Nat) (w : World) (hn : l.length = n) (hl : n ≤ 1000) (hr : Rd w p (flat l)) (hok : l.all Cd.ok = true) (hs : sorted l) :
    Calls Try.prog 14 #[.slice p n cp, .bool bl] w fun e w' => ∃ u, e = .returned u ∧ OwnI w' w.heap.size u (nums (sel l bl) 81) ∧ Below w.heap.size w w' := by
  have HN := Lib.hid hn
  have HR0 := Lib.hid hr
  have HS := Lib.hid hs
  have HK := Lib.hid hok
  clear hn hr hs hok
  go_enter Try.func14, Try.ntmps14
  go_wp2_with fail
  go_loopw [5, 6, 7] (fun o i _ wr => ∃ k : Nat, k ≤ 81 ∧ i = .int .i64 k ∧ Hid (OwnI wr w.heap.size o (nums (sel l bl) k)) ∧ Hid (Below w.heap.size w wr)) (fun _ i _ _ => 81 - (intOf i).toNat)
  case atStart => exact ⟨0, Nat.zero_le _, rfl, Lib.hid (OwnI.empty w w.heap.size (Nat.le_refl _)), Lib.hid (by repeat (first | with_reducible exact Below.refl _ _ | with_reducible exact HB.out | with_reducible apply Below.drew | with_reducible apply bdN | with_reducible refine Below.alloc ?_ (by first | exact Nat.le_refl _ | with_reducible exact HB.out.size | omega | (simp; done) | (simp; omega) | (have := HB.out.size; simp at *; omega)) _ | with_reducible refine Below.setCell ?_ (by first | exact Nat.le_refl _ | with_reducible exact HB.out.size | omega | (simp; done) | (simp; omega) | (have := HB.out.size; simp at *; omega)) _))⟩
  case round =>
    obtain ⟨k, hk, rfl, HO, HB⟩ := hrel
    by_cases hlt : k < 81
    · have HR := Lib.hid (HR0.out.below HB.out)
      have m0 : (0 : Int) ≤ (k : Int) := by omega
      have m1 : (k : Int) < 81 := by omega
      have HC := Lib.hid (cdAt_ok (n := (k : Int)) m0 (by omega))
      have HLn := Lib.hid (nums_len (sel l bl) k)
      go_wp2_with fail
      refine ((l2_at (k : Int) _ m0 (by omega))).mono ?_
      rintro e w2 ⟨rfl, b⟩
      have Sw2 := Lib.hid b.size
      have HB := Lib.hid (chain0 (w := w) (by repeat (first | with_reducible exact Below.refl _ _ | with_reducible exact HB.out | with_reducible apply Below.drew | with_reducible apply bdN | with_reducible refine Below.alloc ?_ (by first | exact Nat.le_refl _ | with_reducible exact HB.out.size | omega | (simp; done) | (simp; omega) | (have := HB.out.size; simp at *; omega)) _ | with_reducible refine Below.setCell ?_ (by first | exact Nat.le_refl _ | with_reducible exact HB.out.size | omega | (simp; done) | (simp; omega) | (have := HB.out.size; simp at *; omega)) _)) b)
      have HR := Lib.hid (Rd.below (by repeat (first | with_reducible exact HR.out | with_reducible apply Rd.drewN | with_reducible apply Rd.drew | with_reducible apply Rd.alloc)) b)
      have HO := Lib.hid (OwnI.below (by repeat (first | with_reducible exact HO.out | with_reducible apply OwnI.drewN | with_reducible apply OwnI.drew | with_reducible apply OwnI.alloc)) b)
      clear b
      have HP := fun w' (hr : Rd w' p (flat l)) => l2_has l (cdAt (k : Int)) p n cp w' HN.out hl hr HK.out HC.out HS.out
      have HT := fun w' (hr : Rd w' p (flat l)) => l2_through l (cdAt (k : Int)) p n cp w' HN.out hl hr HK.out HC.out HS.out
      cases ht : there l (cdAt (k : Int))
      · rw [ht] at HP
        obtain ⟨v, hv⟩ : ∃ v, thr l (cdAt (k : Int)) n = v := ⟨_, rfl⟩
        have hvd : sel l bl (cdAt (k : Int)) = (decide (0 < v) == bl) := by unfold sel; rw [ht, HN.out, hv]; rfl
        rw [hv] at HT
        have HP2 := Lib.hid HP
        have HT2 := Lib.hid HT
        clear HP HT ht hv
        go_wp2_with fail
        refine ((HP2.out _ (by repeat (first | with_reducible exact HR.out | with_reducible apply Rd.drewN | with_reducible apply Rd.drew | with_reducible apply Rd.alloc)))).mono ?_
        rintro e w3 ⟨rfl, b⟩
        have Sw3 := Lib.hid b.size
        have HB := Lib.hid (chain0 (w := w) (by repeat (first | with_reducible exact Below.refl _ _ | with_reducible exact HB.out | with_reducible apply Below.drew | with_reducible apply bdN | with_reducible refine Below.alloc ?_ (by first | exact Nat.le_refl _ | with_reducible exact HB.out.size | omega | (simp; done) | (simp; omega) | (have := HB.out.size; simp at *; omega)) _ | with_reducible refine Below.setCell ?_ (by first | exact Nat.le_refl _ | with_reducible exact HB.out.size | omega | (simp; done) | (simp; omega) | (have := HB.out.size; simp at *; omega)) _)) b)
        have HR := Lib.hid (Rd.below (by repeat (first | with_reducible exact HR.out | with_reducible apply Rd.drewN | with_reducible apply Rd.drew | with_reducible apply Rd.alloc)) b)
        have HO := Lib.hid (OwnI.below (by repeat (first | with_reducible exact HO.out | with_reducible apply OwnI.drewN | with_reducible apply OwnI.drew | with_reducible apply OwnI.alloc)) b)
        have K1 : Hid (Box _ (w2.heap.size) ((cdAt (k : Int)))) := Lib.hid (Box.below (by repeat (first | with_reducible exact K1.out | with_reducible apply Box.drewN | with_reducible apply Box.drew | (with_reducible refine Box.newAt ?_ ?_ <;> first | (simp; done) | rfl) | with_reducible apply Box.alloc)) b)
        try clear k1a k1b k1c k1d k1z
        have k1z := K1.out.lt
        obtain ⟨k1a, k1b, k1c, k1d⟩ := K1.out.cell
        clear b
        go_wp2_with fail
        refine ((HT2.out _ (by repeat (first | with_reducible exact HR.out | with_reducible apply Rd.drewN | with_reducible apply Rd.drew | with_reducible apply Rd.alloc)))).mono ?_
        rintro e w4 ⟨rfl, b⟩
        have Sw4 := Lib.hid b.size
        have HB := Lib.hid (chain0 (w := w) (by repeat (first | with_reducible exact Below.refl _ _ | with_reducible exact HB.out | with_reducible apply Below.drew | with_reducible apply bdN | with_reducible refine Below.alloc ?_ (by first | exact Nat.le_refl _ | with_reducible exact HB.out.size | omega | (simp; done) | (simp; omega) | (have := HB.out.size; simp at *; omega)) _ | with_reducible refine Below.setCell ?_ (by first | exact Nat.le_refl _ | with_reducible exact HB.out.size | omega | (simp; done) | (simp; omega) | (have := HB.out.size; simp at *; omega)) _)) b)
        have HR := Lib.hid (Rd.below (by repeat (first | with_reducible exact HR.out | with_reducible apply Rd.drewN | with_reducible apply Rd.drew | with_reducible apply Rd.alloc)) b)
        have HO := Lib.hid (OwnI.below (by repeat (first | with_reducible exact HO.out | with_reducible apply OwnI.drewN | with_reducible apply OwnI.drew | with_reducible apply OwnI.alloc)) b)
        have K1 : Hid (Box _ (w2.heap.size) ((cdAt (k : Int)))) := Lib.hid (Box.below (by repeat (first | with_reducible exact K1.out | with_reducible apply Box.drewN | with_reducible apply Box.drew | (with_reducible refine Box.newAt ?_ ?_ <;> first | (simp; done) | rfl) | with_reducible apply Box.alloc)) b)
        try clear k1a k1b k1c k1d k1z
        have k1z := K1.out.lt
        obtain ⟨k1a, k1b, k1c, k1d⟩ := K1.out.cell
        clear b
        by_cases hv : 0 < v
        · have hd : decide (0 < v) = true := decide_eq_true hv
          rw [hd] at hvd
          cases bl
          · have HE := Lib.hid (nums_no (show sel l false (cdAt (k : Int)) = false from hvd))
            clear hvd
            go_wp2_with fail
            go_roundw
            case rel => exact ⟨k + 1, by omega, by go_num, by rw [HE.out]; exact HO, HB⟩
            case measure => simp [intOf]; omega
          · have HE := Lib.hid (nums_yes (show sel l true (cdAt (k : Int)) = true from hvd))
            clear hvd
            go_wp2_with (at_builtin; refine append_int rfl (.tmp 27) (.tmp 29) rfl w.heap.size _ (nums (sel l true) k) (k : Int) _ _ rfl rfl rfl HO.out (by have := HLn.out; omega) HB.out.size ?_; intro v1 w5 hO1 hB1)
            rw [← HE.out] at hO1
            go_roundw
            case rel => exact ⟨k + 1, by omega, by go_num, hO1, HB.out.trans hB1⟩
            case measure => simp [intOf]; omega
        · have hd : decide (0 < v) = false := decide_eq_false hv
          rw [hd] at hvd
          cases bl
          · have HE := Lib.hid (nums_yes (show sel l false (cdAt (k : Int)) = true from hvd))
            clear hvd
            go_wp2_with (at_builtin; refine append_int rfl (.tmp 27) (.tmp 29) rfl w.heap.size _ (nums (sel l false) k) (k : Int) _ _ rfl rfl rfl HO.out (by have := HLn.out; omega) HB.out.size ?_; intro v1 w5 hO1 hB1)
            rw [← HE.out] at hO1
            go_roundw
            case rel => exact ⟨k + 1, by omega, by go_num, hO1, HB.out.trans hB1⟩
            case measure => simp [intOf]; omega
          · have HE := Lib.hid (nums_no (show sel l true (cdAt (k : Int)) = false from hvd))
            clear hvd
            go_wp2_with fail
            go_roundw
            case rel => exact ⟨k + 1, by omega, by go_num, by rw [HE.out]; exact HO, HB⟩
            case measure => simp [intOf]; omega
      · rw [ht] at HP
        have hvd : sel l bl (cdAt (k : Int)) = false := by unfold sel; rw [ht]; rfl
        have HE := Lib.hid (nums_no hvd)
        have HP2 := Lib.hid HP
        clear HP HT ht hvd
        go_wp2_with fail
        refine ((HP2.out _ (by repeat (first | with_reducible exact HR.out | with_reducible apply Rd.drewN | with_reducible apply Rd.drew | with_reducible apply Rd.alloc)))).mono ?_
        rintro e w3 ⟨rfl, b⟩
        have Sw3 := Lib.hid b.size
        have HB := Lib.hid (chain0 (w := w) (by repeat (first | with_reducible exact Below.refl _ _ | with_reducible exact HB.out | with_reducible apply Below.drew | with_reducible apply bdN | with_reducible refine Below.alloc ?_ (by first | exact Nat.le_refl _ | with_reducible exact HB.out.size | omega | (simp; done) | (simp; omega) | (have := HB.out.size; simp at *; omega)) _ | with_reducible refine Below.setCell ?_ (by first | exact Nat.le_refl _ | with_reducible exact HB.out.size | omega | (simp; done) | (simp; omega) | (have := HB.out.size; simp at *; omega)) _)) b)
        have HR := Lib.hid (Rd.below (by repeat (first | with_reducible exact HR.out | with_reducible apply Rd.drewN | with_reducible apply Rd.drew | with_reducible apply Rd.alloc)) b)
        have HO := Lib.hid (OwnI.below (by repeat (first | with_reducible exact HO.out | with_reducible apply OwnI.drewN | with_reducible apply OwnI.drew | with_reducible apply OwnI.alloc)) b)
        have K1 : Hid (Box _ (w2.heap.size) ((cdAt (k : Int)))) := Lib.hid (Box.below (by repeat (first | with_reducible exact K1.out | with_reducible apply Box.drewN | with_reducible apply Box.drew | (with_reducible refine Box.newAt ?_ ?_ <;> first | (simp; done) | rfl) | with_reducible apply Box.alloc)) b)
        try clear k1a k1b k1c k1d k1z
        have k1z := K1.out.lt
        obtain ⟨k1a, k1b, k1c, k1d⟩ := K1.out.cell
        clear b
        go_wp2_with fail
        go_roundw
        case rel => exact ⟨k + 1, by omega, by go_num, by rw [HE.out]; exact HO, HB⟩
        case measure => simp [intOf]; omega
    · obtain rfl : k = 81 := by omega
      go_wp2_with fail
      go_ret
      exact ⟨_, rfl, HO.out, HB.out⟩

noncomputable def fullR (l : List Cd) : Bool × Bool := if handB l = true then (capB l && decide ((nums (fre l) 81).length = 0), true) else (false, false)

end Go.Proofs.Ytghfplmpfgkmeaa.cards

/- FillCap: mathematics. -/
namespace Go.Proofs.Ytghfplmpfgkmeaa.chance
open Go.RowKit
open cards reg
set_option linter.unusedVariables false

theorem insert_cd (l : List Cd) (x : Cd) (B g n cap gv i : Nat) (w : World) (hn : l.length = n) (hl : n ≤ 1000) (hin : i ≤ n) (hO : Own w B (.slice (some ⟨g, 0, none⟩) n cap) l) (hv : Box w gv x) (hne : gv ≠ g) (hB : B ≤ w.heap.size) :
    Calls Try.prog 24 #[.slice (some ⟨g, 0, none⟩) n cap, .int .i64 i, .slice (some ⟨gv, 0, none⟩) 1 1] w fun e w' => ∃ g' c', e = .returned (.slice (some ⟨g', 0, none⟩) (n + 1) c') ∧ Own w' B (.slice (some ⟨g', 0, none⟩) (n + 1) c') (insC l i x) ∧ Below B w w' := by
  by_cases h : i = n
  · subst h
    exact insert_end l x B g i cap gv w hn hl hO hv hB
  · by_cases hr : n + 1 ≤ cap
    · exact (insert_room l x B g n cap gv i w hn hl (by omega) hr hO hv hne).mono (fun e w' h => ⟨g, cap, h⟩)
    · exact insert_grow l x B g n cap gv i w hn hl (by omega) (by omega) hO hv hB
/-- A cap that is filled by the numbers below k, in order. -/
noncomputable def fill (l : List Cd) : Nat → List Cd
  | 0 => l
  | k + 1 => if fre (fill l k) (cdAt (k : Int)) = true then put (fill l k) (cdAt (k : Int)) else fill l k
theorem put_len {l : List Cd} {c : Cd} (h : there l c = false) : (put l c).length = l.length + 1 := by
  unfold put
  rw [h]
  simp only [Bool.false_eq_true, if_false, List.length_append, List.length_cons, List.length_take, List.length_drop]
  omega
theorem fre_there {l : List Cd} {y : Cd} (h : fre l y = true) : there l y = false := by
  unfold fre at h
  cases ht : there l y
  · rfl
  · rw [ht] at h; cases h
theorem put_isE {l : List Cd} {c : Cd} (h : there l c = false) : put l c = insC l (less l c) c := by
  unfold put insC
  rw [h]
  simp
/-- What is not free is not free when a card is put. -/
theorem fre_put {l : List Cd} {c y : Cd} (hs : sorted l) (hok : l.all Cd.ok = true) (hc : c.ok = true) (hy : y.ok = true) (hn : there l c = false) (h : fre l y = false) : fre (put l c) y = false := by
  have hs2 := put_sorted (c := c) hs hok hc
  have ho2 := put_ok (c := c) hs hok hc
  cases ht : there l y
  · have h1 : 0 < thr l y l.length := by
      unfold fre at h
      rw [ht] at h
      simp at h
      exact h
    have h2 : 0 < thr (put l c) y (put l c).length := by
      rw [thr_is hs2 ho2 hy]
      rw [thr_is hs hok hy] at h1
      have h3 : psM y (put l c) = psM y l + smM y c l := by
        rw [put_isE hn]
        unfold insC
        rw [List.append_assoc]
        show psM y (l.take (less l c) ++ (c :: l.drop (less l c))) = _
        rw [psM_ins hy hc _ _ (ok_sub hok (List.take_sublist _ _)), List.take_append_drop]
      omega
    unfold fre
    rw [decide_eq_true h2]; simp
  · have h1 : there (put l c) y = true := (there_iff hs2 ho2 hy).2 ((put_mem hs hok hc).2 (.inr ((there_iff hs hok hy).1 ht)))
    unfold fre
    rw [h1]; rfl
theorem fill_good {l : List Cd} (hs : sorted l) (hok : l.all Cd.ok = true) : ∀ k : Nat, k ≤ 81 → sorted (fill l k) ∧ (fill l k).all Cd.ok = true ∧ (fill l k).length ≤ l.length + k ∧ ∀ i : Nat, i < k → fre (fill l k) (cdAt (i : Int)) = false
  | 0, _ => ⟨hs, hok, by simp [fill], fun i h => by omega⟩
  | k + 1, h => by
    obtain ⟨h1, h2, h3, h4⟩ := fill_good hs hok k (by omega)
    have hko := cdAt_okN (n := (k : Int)) (by omega) (by omega)
    cases hf : fre (fill l k) (cdAt (k : Int))
    · have e : fill l (k + 1) = fill l k := by rw [fill, if_neg (by rw [hf]; simp)]
      rw [e]
      exact ⟨h1, h2, by omega, fun i hi => by
        rcases Nat.lt_or_ge i k with hlt | hge
        · exact h4 i hlt
        · obtain rfl : i = k := by omega
          exact hf⟩
    · have e : fill l (k + 1) = put (fill l k) (cdAt (k : Int)) := by rw [fill, if_pos hf]
      have hth := fre_there hf
      rw [e]
      refine ⟨put_sorted h1 h2 hko, put_ok h1 h2 hko, by rw [put_len hth]; omega, fun i hi => ?_⟩
      rcases Nat.lt_or_ge i k with hlt | hge
      · exact fre_put h1 h2 hko (cdAt_okN (by omega) (by omega)) hth (h4 i hlt)
      · obtain rfl : i = k := by omega
        have ht : there (put (fill l i) (cdAt (i : Int))) (cdAt (i : Int)) = true := (there_iff (put_sorted h1 h2 hko) (put_ok h1 h2 hko) hko).2 ((put_mem h1 h2 hko).2 (.inl rfl))
        unfold fre
        rw [ht]; rfl
theorem fill_yes {l : List Cd} {k : Nat} (h : fre (fill l k) (cdAt (k : Int)) = true) : fill l (k + 1) = put (fill l k) (cdAt (k : Int)) := by rw [fill, if_pos h]
theorem fill_no {l : List Cd} {k : Nat} (h : fre (fill l k) (cdAt (k : Int)) = false) : fill l (k + 1) = fill l k := by rw [fill, if_neg (by rw [h]; simp)]
theorem fill_stay {l : List Cd} {k j : Nat} (h : ∀ i : Nat, k ≤ i → i < j → fre (fill l k) (cdAt (i : Int)) = false) : ∀ e : Nat, k + e ≤ j → fill l (k + e) = fill l k
  | 0, _ => rfl
  | e + 1, he => by
    have ih := fill_stay h e (by omega)
    rw [← Nat.add_assoc, fill_no (by rw [ih]; exact h (k + e) (by omega) (by omega)), ih]
theorem nums_nil {P : Cd → Bool} : ∀ {k : Nat}, nums P k = [] → ∀ i : Nat, i < k → P (cdAt (i : Int)) = false
  | 0, _, i, hi => by omega
  | k + 1, h, i, hi => by
    cases hp : P (cdAt (k : Int))
    · rw [nums_no hp] at h
      rcases Nat.lt_or_ge i k with hlt | hge
      · exact nums_nil h i hlt
      · obtain rfl : i = k := by omega
        exact hp
    · rw [nums_yes hp] at h
      simp at h
theorem nums_head {P : Cd → Bool} : ∀ {k : Nat} {j : Int}, (nums P k)[0]? = some j → ∃ i : Nat, j = (i : Int) ∧ i < k ∧ P (cdAt (i : Int)) = true ∧ ∀ i' : Nat, i' < i → P (cdAt (i' : Int)) = false
  | 0, j, h => by simp [nums_zero] at h
  | k + 1, j, h => by
    cases hp : P (cdAt (k : Int))
    · rw [nums_no hp] at h
      obtain ⟨i, h1, h2, h3⟩ := nums_head h
      exact ⟨i, h1, by omega, h3⟩
    · rw [nums_yes hp] at h
      cases hn : nums P k with
      | nil =>
        rw [hn] at h
        simp at h
        exact ⟨k, h.symm, by omega, hp, fun i' hi' => nums_nil hn i' hi'⟩
      | cons a r =>
        have h5 : (nums P k)[0]? = some j := by rw [hn] at h ⊢; simpa using h
        obtain ⟨i, h1, h2, h3⟩ := nums_head h5
        exact ⟨i, h1, by omega, h3⟩
noncomputable def fcR (l : List Cd) : List Cd × Bool := if handB l = true ∧ capB l = true then (fill l 81, true) else ([], false)
end Go.Proofs.Ytghfplmpfgkmeaa.chance

/- Slices of cards of the call's own that are not nil; all cards of another slice are appended, at a step of a region that draws too. -/
namespace Go.Proofs.Ytghfplmpfgkmeaa.cards
open Go.RowKit
set_option linter.unusedVariables false

/-- The call owns a slice of these cards, and it is not nil. -/
def OwnN (w : World) (B : Nat) (v : Value) (l : List Cd) : Prop := Own w B v l ∧ v ≠ .slice none 0 0
theorem OwnN.own {w : World} {B : Nat} {v : Value} {l : List Cd} (h : OwnN w B v l) : Own w B v l := h.1
theorem OwnN.below {w w1 : World} {B : Nat} {v : Value} {l : List Cd} (h : OwnN w B v l) (hb : Below w.heap.size w w1) : OwnN w1 B v l := ⟨h.1.below hb, h.2⟩
theorem OwnN.alloc {w : World} {B : Nat} {v : Value} {l : List Cd} (h : OwnN w B v l) (o : Obj) : OwnN (w.alloc o) B v l := ⟨h.1.alloc o, h.2⟩
theorem OwnN.drew {w : World} {B : Nat} {v : Value} {l : List Cd} (h : OwnN w B v l) : OwnN w.drew B v l := h
theorem OwnN.drewN {w : World} {B : Nat} {v : Value} {l : List Cd} (h : OwnN w B v l) (k : Nat) : OwnN (w.drewN k) B v l := h
theorem OwnN.base {w : World} {B B' : Nat} {v : Value} {l : List Cd} (h : OwnN w B v l) (hB : B' ≤ B) : OwnN w B' v l := ⟨h.1.base hB, h.2⟩
theorem OwnN.empty (w : World) (B : Nat) (hB : B ≤ w.heap.size) : OwnN (w.alloc (.cells #[] 32)) B (.slice (some ⟨w.heap.size, 0, none⟩) 0 0) [] := ⟨Own.empty w B hB, by simp⟩
theorem OwnN.form {w : World} {B : Nat} {v : Value} {l : List Cd} (h : OwnN w B v l) : ∃ g c, v = .slice (some ⟨g, 0, none⟩) l.length c ∧ l.length ≤ c ∧ Rd w (some ⟨g, 0, none⟩) (flat l) := by
  obtain ⟨h1, h2⟩ := h
  obtain ⟨p, c, hv, hc, hr, _⟩ := h1.form
  obtain ⟨_, ⟨e, _⟩ | ⟨g, cap, cur, e, _⟩⟩ := h1
  · exact absurd e h2
  · rw [hv] at e
    injection e with e1 e2 e3
    subst e1
    exact ⟨g, c, hv, hc, hr⟩
set_option maxRecDepth 100000 in
theorem run_append_cards (W : World) (ty : TypeId) (B : Nat) (v : Value) (l l2 : List Cd) (p : Option Addr) (m c : Nat) (hO : Own W B v l) (hm : l2.length = m) (hR : Rd W p (flat l2)) (h0 : p = none → c = 0) (hl : l.length + m ≤ 1000000000) (hB : B ≤ W.heap.size) :
    ∃ v' w', (Builtin.append_ #[22, 22] ty #[v, .slice p m c]).run Try.prog W = .ok v' w' ∧ Own w' B v' (l ++ l2) ∧ Below B W w' ∧ W.grownBy w' v.ownBlock ∧ (v ≠ .slice none 0 0 → v' ≠ .slice none 0 0) ∧ (v'.ownBlock = v.ownBlock ∨ v'.ownBlock = some W.heap.size) := by
  obtain ⟨i, hi, hz, hsz, hb⟩ := info_parts a4info
  have hgo : W.grownBy W v.ownBlock := ⟨rfl, rfl, rfl, Nat.le_refl _, fun _ _ _ => rfl⟩
  cases p with
  | none =>
    have hm0 : l2 = [] := by
      cases l2 with
      | nil => rfl
      | cons x r => obtain ⟨b, o, e, _⟩ := hR (by rw [flat_len]; simp); cases e
    subst hm0
    obtain rfl : m = 0 := hm.symm
    obtain rfl := h0 rfl
    exact ⟨v, W, run_append_owned_none (P := Try.prog) (w := W) B 22 ty 32 i 4 Try.underlying22 hi v l.length (flat l) hO, by rw [List.append_nil]; exact hO, Below.refl _ _, hgo, fun h => h, .inl rfl⟩
  | some q =>
    obtain ⟨v', w', hr, g1, g2, g3, g4⟩ := run_append_own_at (P := Try.prog) W B 22 ty 32 i (.agg #[.int .i64 0, .int .i64 0, .int .i64 0, .int .i64 0]) 4 32 Try.underlying22 hi hz hsz hb rfl (by decide) v l.length (flat l) hO q m c (flat l2) (by rw [flat_len, hm]; omega) (fun j u hu => by
        obtain ⟨b, o, e, _, hc⟩ := hR (Nat.lt_of_le_of_lt (Nat.zero_le _) (List.getElem?_eq_some_iff.1 hu).1)
        injection e with e
        subst e
        have hadd : (⟨b, o, none⟩ : Addr).add j = ⟨b, o + j, none⟩ := by unfold Addr.add; split <;> simp_all
        rw [hadd]; exact hc j u hu) (flat_one l2) (by simp only [maxLen]; omega) (by omega) hB
    refine ⟨v', w', hr, ?_, (Below.refl _ _).grown g2 hB (fun k hk => (World.ownsRow.lt hO k hk).1), g2, fun h e => h (g3.1 e).1, g4⟩
    unfold Own
    rw [List.length_append, flat_app, hm]; exact g1
/-- At a step of a region that draws. -/
theorem step_append_cards {ops : Array Oper} {o : Oper} {a : Act} {W : World} {K : Act → World → Prop} {Q : Exit → Act → World → Prop} {E : Prop} (hg : o.guard = none) (s x : Operand)
    (hop : o.op = .call { callee := .builtin .append, args := #[s, x], argTypes := #[22, 22] }) (B : Nat) (v : Value) (l l2 : List Cd) (p : Option Addr) (m c : Nat)
    (hs : a.eval s = v) (hx : a.eval x = .slice p m c) (hO : OwnN W B v l) (hm : l2.length = m) (hR : Rd W p (flat l2)) (h0 : p = none → c = 0) (hl : l.length + m ≤ 1000000000) (hB : B ≤ W.heap.size)
    (hK : ∀ v' w', OwnN w' B v' (l ++ l2) → Below B W w' → W.grownBy w' v.ownBlock → K (a.put o.dst v') w') : if Region.wanted o (yielded ops a.tmps) = true then Oper.wp Try.prog o a W K Q else E := by
  have hw : Region.wanted o (yielded ops a.tmps) = true := by simp [Region.wanted, hg]
  rw [if_pos hw]
  obtain ⟨v', w', hrun, g1, g2, g3, g4, _⟩ := run_append_cards W o.type B v l l2 p m c hO.1 hm hR h0 hl hB
  unfold Oper.wp
  simp only [execOp, hop, resolve, invoke, builtin, Sem.run_bind, Sem.run_pure, Result.andThen_ok, List.map_toArray, List.map_cons, List.map_nil, hs, hx, hrun]
  exact hK v' w' ⟨g1, g4 hO.2⟩ g2 g3
/-- At an operation of a plain region. -/
theorem list_append_cards {ops : Array Oper} {rest : List Oper} {o : Oper} {a : Act} {Q : Exit → Act → World → Prop} (hg : o.guard = none) (s x : Operand)
    (hop : o.op = .call { callee := .builtin .append, args := #[s, x], argTypes := #[22, 22] }) (B : Nat) (v : Value) (l l2 : List Cd) (p : Option Addr) (m c : Nat) (W : World)
    (hs : a.eval s = v) (hx : a.eval x = .slice p m c) (hO : Own W B v l) (hm : l2.length = m) (hR : Rd W p (flat l2)) (h0 : p = none → c = 0) (hl : l.length + m ≤ 1000000000) (hB : B ≤ W.heap.size)
    (hK : ∀ v' w', Own w' B v' (l ++ l2) → (v ≠ .slice none 0 0 → v' ≠ .slice none 0 0) → Below B W w' → W.grownBy w' v.ownBlock → wpList Try.prog ops Q rest (a.put o.dst v') w') : wpList Try.prog ops Q (o :: rest) a W := by
  refine wpList_plain hg fun K' hK' => ?_
  obtain ⟨v', w', hrun, g1, g2, g3, g4, _⟩ := run_append_cards W o.type B v l l2 p m c hO hm hR h0 hl hB
  unfold Oper.wp
  simp only [execOp, hop, resolve, invoke, builtin, Sem.run_bind, Sem.run_pure, Result.andThen_ok, List.map_toArray, List.map_cons, List.map_nil, hs, hx, hrun]
  exact hK' _ _ (hK v' w' g1 g4 g2 g3)
end Go.Proofs.Ytghfplmpfgkmeaa.cards

/- The model's copy of a hand, and a card put into one. -/
namespace Go.Proofs.Ytghfplmpfgkmeaa.cards
open Go.RowKit
set_option linter.unusedVariables false

set_option maxRecDepth 100000 in
set_option maxHeartbeats 2000000 in
theorem l2_own (l : List Cd) (p : Option Addr) (n cp : Nat) (w : World) (hn : l.length = n) (hl : n ≤ 1000000) (hr : Rd w p (flat l)) (h0 : p = none → cp = 0) :
    Calls Try.prog 13 #[.slice p n cp] w fun e w' => ∃ u, e = .returned u ∧ OwnN w' w.heap.size u l ∧ Below w.heap.size w w' := by
  have HN := Lib.hid hn
  have HR := Lib.hid hr
  have H0 := Lib.hid h0
  have HO := Lib.hid (OwnN.empty w w.heap.size (Nat.le_refl _))
  clear hn hr h0
  go_enter Try.func13, Try.ntmps13
  have hb0 : Below w.heap.size w (w.alloc (.cells #[] 32)) := (Below.refl _ _).alloc (Nat.le_refl _) _
  have HB0 := Lib.hid hb0
  clear hb0
  go_wp2_with (at_builtin; refine list_append_cards rfl (.tmp 3) (.tmp 4) rfl w.heap.size _ [] l p n cp _ rfl rfl HO.out.1 HN.out (HR.out.alloc _) H0.out (by simp; omega) HB0.out.size ?_; intro v1 w1 hO1 hN1 hB1 hG1)
  go_ret
  exact ⟨_, rfl, ⟨hO1, hN1 HO.out.2⟩, HB0.out.trans hB1⟩

theorem Box.rd1 {w : World} {g : Nat} {c : Cd} (h : Box w g c) : Rd w (some ⟨g, 0, none⟩) (flat [c]) := Rd.of_block h rfl
theorem Rd.dropIf {w : World} {b o cp : Nat} {l : List Cd} (h : Rd w (some ⟨b, o, none⟩) (flat l)) (k : Nat) (hk : l.length ≤ cp) : Rd w (if cp = k then some ⟨b, o, none⟩ else some ⟨b, o + k * 4, none⟩) (flat (l.drop k)) := by
  split
  · rename_i e
    subst e
    rw [List.drop_eq_nil_of_le hk]
    intro hp; simp [flat] at hp
  · exact h.drop k
theorem same_at {l : List Cd} {c x : Cd} (hs : sorted l) (hok : l.all Cd.ok = true) (hc : c.ok = true) (hx : l[less l c]? = some x) : same x c = there l c := by
  rw [same_num (ok_at hok hx) hc, Bool.eq_iff_iff, decide_eq_true_eq]
  constructor
  · intro h; exact ((place_is (t := c) hs hx).1 h).1
  · intro h
    obtain ⟨z, hz, hn⟩ := of_decide_eq_true h
    rw [hx] at hz; injection hz with hz; subst hz; exact hn
theorem there_end {l : List Cd} {c : Cd} (h : l.length ≤ less l c) : there l c = false := by
  rw [Bool.eq_false_iff]; intro hh
  have := there_lt hh; omega

set_option maxRecDepth 100000 in
set_option maxHeartbeats 4000000 in
theorem l2_put (l : List Cd) (c : Cd) (ba o n cp : Nat) (w : World) (hn : l.length = n) (hl : n ≤ 1000) (hcp : n ≤ cp) (hr : Rd w (some ⟨ba, o, none⟩) (flat l)) (hok : l.all Cd.ok = true) (hc : c.ok = true) (hs : sorted l) :
    Calls Try.prog 15 #[.slice (some ⟨ba, o, none⟩) n cp, c.val] w fun e w' => ∃ u, e = .returned u ∧ OwnN w' w.heap.size u (put l c) ∧ Below w.heap.size w w' := by
  have HN := Lib.hid hn
  have HR0 := Lib.hid hr
  have HS := Lib.hid hs
  have HK := Lib.hid hok
  have HC := Lib.hid hc
  clear hn hr hs hok hc
  go_enter Try.func15, Try.ntmps15
  go_wp2_with fail
  go_loopw [5] (fun i wr => ∃ k : Nat, k ≤ n ∧ i = .int .i64 k ∧ Hid (∀ j x, j < k → l[j]? = some x → num x < num c) ∧ Hid (Below w.heap.size w wr) ∧ Hid (Box wr w.heap.size c)) (fun i _ => n - (intOf i).toNat)
  case atStart => exact ⟨0, Nat.zero_le _, rfl, Lib.hid (fun j x hj => absurd hj (Nat.not_lt_zero j)), Lib.hid (by repeat (first | with_reducible exact Below.refl _ _ | with_reducible exact HB.out | with_reducible apply Below.drew | with_reducible apply bdN | with_reducible refine Below.alloc ?_ (by first | exact Nat.le_refl _ | with_reducible exact HB.out.size | omega | (simp; done) | (simp; omega) | (have := HB.out.size; simp at *; omega)) _ | with_reducible refine Below.setCell ?_ (by first | exact Nat.le_refl _ | with_reducible exact HB.out.size | omega | (simp; done) | (simp; omega) | (have := HB.out.size; simp at *; omega)) _)), Lib.hid (by repeat (first | with_reducible exact HB.out | with_reducible apply Box.drewN | with_reducible apply Box.drew | (with_reducible refine Box.newAt ?_ ?_ <;> first | (simp; done) | rfl) | with_reducible apply Box.alloc))⟩
  case round =>
    obtain ⟨k, hk, rfl, HF, HB, K0⟩ := hrel
    obtain ⟨k0a, k0b, k0c, k0d⟩ := K0.out.cell
    have k0z := K0.out.lt
    have HR := Lib.hid (HR0.out.below HB.out)
    have m0 : (0 : Int) ≤ (k : Int) := by omega
    have m2 : (k : Int) ≤ (cp : Int) := by omega
    have m3 : (k : Int) ≤ (n : Int) := by omega
    have hTl : (l.take k).length = k := by rw [List.length_take, HN.out]; omega
    have hDl : (l.drop k).length = n - k := by rw [List.length_drop, HN.out]
    have HTl := Lib.hid hTl
    have HDl := Lib.hid hDl
    clear hTl hDl
    by_cases hlt : k < n
    · obtain ⟨b', o', x, hbo, hb, hx, c0, c1, c2, c3⟩ := HR.out.card (k := k) (by rw [HN.out]; exact hlt)
      injection hbo with hbo
      injection hbo with e1 e2
      subst e1; subst e2
      have HXa := Lib.hid hx
      have HX := Lib.hid (ok_at HK.out hx)
      have m1 : (k : Int) < (n : Int) := by omega
      clear hx
      have HL := fun w' => l2_less x c w' HX.out HC.out
      by_cases hxc : num x < num c
      · rw [decide_eq_true hxc] at HL
        have HL2 := Lib.hid HL
        clear HL
        go_wp2_with fail
        have qk0a := fun d os => cell_regrown k0a d os
        have qk0b := fun d os => cell_regrown k0b d os
        have qk0c := fun d os => cell_regrown k0c d os
        have qk0d := fun d os => cell_regrown k0d d os
        have qc0 := fun d os => cell_regrown c0 d os
        have qc1 := fun d os => cell_regrown c1 d os
        have qc2 := fun d os => cell_regrown c2 d os
        have qc3 := fun d os => cell_regrown c3 d os
        refine wp_region_quiet_below (by kernel_rfl) (by kernel_rfl) ?_
        repeat (first | go_big_quiet_step ((go_at_call 27; with_reducible exact Calls.regrown_of (HL2.out _))) | quiet_step ((go_at_call 27; with_reducible exact Calls.regrown_of (HL2.out _))))
        refine wpQuiet_nil ?_
        intro w3 hw2
        have b : Below wr.heap.size wr w3 := by obtain ⟨r, hr⟩ := hw2; rw [hr]; exact below_regrown _ _ _
        clear hw2 qc0 qc1 qc2 qc3 qk0a qk0b qk0c qk0d
        have Sw3 := Lib.hid b.size
        have HB := Lib.hid (chain0 (w := w) (by repeat (first | with_reducible exact Below.refl _ _ | with_reducible exact HB.out | with_reducible apply Below.drew | with_reducible apply bdN | with_reducible refine Below.alloc ?_ (by first | exact Nat.le_refl _ | with_reducible exact HB.out.size | omega | (simp; done) | (simp; omega) | (have := HB.out.size; simp at *; omega)) _ | with_reducible refine Below.setCell ?_ (by first | exact Nat.le_refl _ | with_reducible exact HB.out.size | omega | (simp; done) | (simp; omega) | (have := HB.out.size; simp at *; omega)) _)) b)
        have HR := Lib.hid (Rd.below (by repeat (first | with_reducible exact HR.out | with_reducible apply Rd.drewN | with_reducible apply Rd.drew | with_reducible apply Rd.alloc)) b)
        have K0 : Hid (Box _ (w.heap.size) (c)) := Lib.hid (Box.below (by repeat (first | with_reducible exact K0.out | with_reducible apply Box.drewN | with_reducible apply Box.drew | (with_reducible refine Box.newAt ?_ ?_ <;> first | (simp; done) | rfl) | with_reducible apply Box.alloc)) b)
        try clear k0a k0b k0c k0d k0z
        have k0z := K0.out.lt
        obtain ⟨k0a, k0b, k0c, k0d⟩ := K0.out.cell
        clear b
        clear c0 c1 c2 c3
        go_wp2_with fail
        go_roundw
        case rel => exact ⟨k + 1, by omega, by go_num, Lib.hid (fun j y hj hy => by
            by_cases hjk : j < k
            · exact HF.out j y hjk hy
            · obtain rfl : j = k := by omega
              have := HXa.out
              rw [hy] at this; injection this with this; subst this; exact hxc), HB, K0⟩
        case measure => simp [intOf]; omega
      · rw [decide_eq_false hxc] at HL
        have HL2 := Lib.hid HL
        have HKe := Lib.hid (show k = less l c from less_is (by rw [HN.out]; exact hk) HF.out (fun y hy => by have := HXa.out; rw [hy] at this; injection this with this; subst this; exact hxc))
        have hsa : same x c = there l c := same_at HS.out HK.out HC.out (by rw [← HKe.out]; exact HXa.out)
        have HSa := Lib.hid hsa
        clear hsa
        clear HL
        go_wp2_with fail
        have qk0a := fun d os => cell_regrown k0a d os
        have qk0b := fun d os => cell_regrown k0b d os
        have qk0c := fun d os => cell_regrown k0c d os
        have qk0d := fun d os => cell_regrown k0d d os
        have qc0 := fun d os => cell_regrown c0 d os
        have qc1 := fun d os => cell_regrown c1 d os
        have qc2 := fun d os => cell_regrown c2 d os
        have qc3 := fun d os => cell_regrown c3 d os
        refine wp_region_quiet_below (by kernel_rfl) (by kernel_rfl) ?_
        repeat (first | go_big_quiet_step ((go_at_call 27; with_reducible exact Calls.regrown_of (HL2.out _))) | quiet_step ((go_at_call 27; with_reducible exact Calls.regrown_of (HL2.out _))))
        refine wpQuiet_nil ?_
        intro w3 hw2
        have b : Below wr.heap.size wr w3 := by obtain ⟨r, hr⟩ := hw2; rw [hr]; exact below_regrown _ _ _
        clear hw2 qc0 qc1 qc2 qc3 qk0a qk0b qk0c qk0d
        have Sw3 := Lib.hid b.size
        have HB := Lib.hid (chain0 (w := w) (by repeat (first | with_reducible exact Below.refl _ _ | with_reducible exact HB.out | with_reducible apply Below.drew | with_reducible apply bdN | with_reducible refine Below.alloc ?_ (by first | exact Nat.le_refl _ | with_reducible exact HB.out.size | omega | (simp; done) | (simp; omega) | (have := HB.out.size; simp at *; omega)) _ | with_reducible refine Below.setCell ?_ (by first | exact Nat.le_refl _ | with_reducible exact HB.out.size | omega | (simp; done) | (simp; omega) | (have := HB.out.size; simp at *; omega)) _)) b)
        have HR := Lib.hid (Rd.below (by repeat (first | with_reducible exact HR.out | with_reducible apply Rd.drewN | with_reducible apply Rd.drew | with_reducible apply Rd.alloc)) b)
        have K0 : Hid (Box _ (w.heap.size) (c)) := Lib.hid (Box.below (by repeat (first | with_reducible exact K0.out | with_reducible apply Box.drewN | with_reducible apply Box.drew | (with_reducible refine Box.newAt ?_ ?_ <;> first | (simp; done) | rfl) | with_reducible apply Box.alloc)) b)
        try clear k0a k0b k0c k0d k0z
        have k0z := K0.out.lt
        obtain ⟨k0a, k0b, k0c, k0d⟩ := K0.out.cell
        clear b
        clear c0 c1 c2 c3
        obtain ⟨c0, c1, c2, c3⟩ := HR.out.at_ HXa.out
        have he := eq_run x c HX.out HC.out
        cases ht : there l c
        · have hsa := HSa.out
          rw [ht] at hsa
          have HP := Lib.hid (show put l c = (l.take k ++ [c]) ++ l.drop k by unfold put; rw [if_neg (by simp [ht]), ← HKe.out]; simp)
          rw [hsa] at he
          clear ht hsa
          go_wp2_with fail
          have qk0a := fun d os => cell_regrown k0a d os
          have qk0b := fun d os => cell_regrown k0b d os
          have qk0c := fun d os => cell_regrown k0c d os
          have qk0d := fun d os => cell_regrown k0d d os
          have qc0 := fun d os => cell_regrown c0 d os
          have qc1 := fun d os => cell_regrown c1 d os
          have qc2 := fun d os => cell_regrown c2 d os
          have qc3 := fun d os => cell_regrown c3 d os
          refine wp_region_quiet_below (by kernel_rfl) (by kernel_rfl) ?_
          repeat (first | go_big_quiet_step ((fail)) | quiet_step ((fail)))
          refine wpQuiet_nil ?_
          intro w4 hw2
          have b : Below w3.heap.size w3 w4 := by obtain ⟨r, hr⟩ := hw2; rw [hr]; exact below_regrown _ _ _
          clear hw2 qc0 qc1 qc2 qc3 qk0a qk0b qk0c qk0d
          have Sw4 := Lib.hid b.size
          have HB := Lib.hid (chain0 (w := w) (by repeat (first | with_reducible exact Below.refl _ _ | with_reducible exact HB.out | with_reducible apply Below.drew | with_reducible apply bdN | with_reducible refine Below.alloc ?_ (by first | exact Nat.le_refl _ | with_reducible exact HB.out.size | omega | (simp; done) | (simp; omega) | (have := HB.out.size; simp at *; omega)) _ | with_reducible refine Below.setCell ?_ (by first | exact Nat.le_refl _ | with_reducible exact HB.out.size | omega | (simp; done) | (simp; omega) | (have := HB.out.size; simp at *; omega)) _)) b)
          have HR := Lib.hid (Rd.below (by repeat (first | with_reducible exact HR.out | with_reducible apply Rd.drewN | with_reducible apply Rd.drew | with_reducible apply Rd.alloc)) b)
          have K0 : Hid (Box _ (w.heap.size) (c)) := Lib.hid (Box.below (by repeat (first | with_reducible exact K0.out | with_reducible apply Box.drewN | with_reducible apply Box.drew | (with_reducible refine Box.newAt ?_ ?_ <;> first | (simp; done) | rfl) | with_reducible apply Box.alloc)) b)
          try clear k0a k0b k0c k0d k0z
          have k0z := K0.out.lt
          obtain ⟨k0a, k0b, k0c, k0d⟩ := K0.out.cell
          clear b
          clear c0 c1 c2 c3 he
          obtain ⟨W4, hW4⟩ : ∃ W4 : World, W4 = w4 := ⟨_, rfl⟩
          go_wp2_with fail
          have HRt := Lib.hid (HR.out.take k)
          have hcpl : l.length ≤ cp := by rw [HN.out]; exact hcp
          have hz4 := HB.out.size
          go_region_law (first
            | (go_simp; go_at_call 13; refine (l2_own (l.take k) (some ⟨ba, o, none⟩) k cp _ HTl.out (by omega) (by repeat (first | with_reducible exact HRt.out | with_reducible apply Rd.drewN | with_reducible apply Rd.drew | with_reducible apply Rd.alloc)) (fun h => by cases h)).mono ?_; rintro e w5 ⟨u, rfl, hu, b⟩; (first | (have K2 := Lib.hid (Box.below (Box.newD _ c) b)) | (have K2 := Lib.hid (Box.below (Box.new _ c) b)) | skip); have HU : Hid (OwnN w5 w.heap.size u (l.take k)) := Lib.hid (hu.base (by first | exact hz4 | (simp; omega))); have HB := Lib.hid (chain0 (w := w) (by repeat (first | with_reducible exact Below.refl _ _ | with_reducible exact HB.out | with_reducible apply Below.drew | with_reducible apply bdN | with_reducible refine Below.alloc ?_ (by first | exact Nat.le_refl _ | with_reducible exact HB.out.size | omega | (simp; done) | (simp; omega) | (have := HB.out.size; simp at *; omega)) _ | with_reducible refine Below.setCell ?_ (by first | exact Nat.le_refl _ | with_reducible exact HB.out.size | omega | (simp; done) | (simp; omega) | (have := HB.out.size; simp at *; omega)) _)) b); have HRt := Lib.hid (Rd.below (by repeat (first | with_reducible exact HRt.out | with_reducible apply Rd.drewN | with_reducible apply Rd.drew | with_reducible apply Rd.alloc)) b); have K0 : Hid (Box _ (w.heap.size) (c)) := Lib.hid (Box.below (by repeat (first | with_reducible exact K0.out | with_reducible apply Box.drewN | with_reducible apply Box.drew | (with_reducible refine Box.newAt ?_ ?_ <;> first | (simp; done) | rfl) | with_reducible apply Box.alloc)) b); obtain ⟨k0a, k0b, k0c, k0d⟩ := K0.out.cell; have k0z := K0.out.lt; clear hu)
            | (refine step_append_cards rfl (.tmp 40) (.tmp 43) rfl w.heap.size v1 (l.take k ++ [c]) (l.drop k) _ _ _ rfl rfl ?_ ?_ ?_ ?_ ?_ ?_ ?_
               · first | exact HO1.out | exact HO1.out.drew
               · first | exact HDl.out | (rw [HDl.out]; simp)
               · exact HRd.out
               · intro h; split at h <;> cases h
               · rw [List.length_append]; have := HTl.out; simp; omega
               · exact HB.out.size
               intro v2 w7 hO2 hB2 hG2
               have HO2 := Lib.hid hO2
               have HB := Lib.hid (HB.out.trans hB2)
               clear hO2 hB2 hG2)
            | (refine step_append_cards rfl (.tmp 37) (.tmp 39) rfl w.heap.size u (l.take k) [c] _ 1 1 rfl rfl ?_ rfl ?_ ?_ ?_ ?_ ?_
               · first | exact HU.out | exact HU.out.alloc _ | exact (HU.out.alloc _).drew
               · first | exact Box.rd1 K2.out | exact Box.rd1 (Box.newD _ c) | exact Box.rd1 (Box.new _ c)
               · intro h; cases h
               · have := HTl.out; simp; omega
               · first | exact HB.out.size | (have := HB.out.size; simp; omega)
               intro v1 w6 hO1 hB1 hG1
               have HO1 := Lib.hid hO1
               have hbb : Below w.heap.size w w6 := Below.trans (by first | exact HB.out | exact HB.out.alloc HB.out.size _ | exact (HB.out.alloc HB.out.size _).drew) hB1
               have HB := Lib.hid hbb
               have HRd := Lib.hid ((HR0.out.below hbb).dropIf (cp := cp) k hcpl)
               clear hO1 hB1 hG1 hbb))
          all_goals
            go_wp2_with fail
            go_ret
            exact ⟨_, rfl, by rw [HP.out]; exact HO2.out, HB.out⟩
        · have hsa := HSa.out
          rw [ht] at hsa
          have HP := Lib.hid (show put l c = l by unfold put; rw [if_pos ht])
          rw [hsa] at he
          clear ht hsa
          go_wp2_with fail
          have qk0a := fun d os => cell_regrown k0a d os
          have qk0b := fun d os => cell_regrown k0b d os
          have qk0c := fun d os => cell_regrown k0c d os
          have qk0d := fun d os => cell_regrown k0d d os
          have qc0 := fun d os => cell_regrown c0 d os
          have qc1 := fun d os => cell_regrown c1 d os
          have qc2 := fun d os => cell_regrown c2 d os
          have qc3 := fun d os => cell_regrown c3 d os
          refine wp_region_quiet_below (by kernel_rfl) (by kernel_rfl) ?_
          repeat (first | go_big_quiet_step ((fail)) | quiet_step ((fail)))
          refine wpQuiet_nil ?_
          intro w4 hw2
          have b : Below w3.heap.size w3 w4 := by obtain ⟨r, hr⟩ := hw2; rw [hr]; exact below_regrown _ _ _
          clear hw2 qc0 qc1 qc2 qc3 qk0a qk0b qk0c qk0d
          have Sw4 := Lib.hid b.size
          have HB := Lib.hid (chain0 (w := w) (by repeat (first | with_reducible exact Below.refl _ _ | with_reducible exact HB.out | with_reducible apply Below.drew | with_reducible apply bdN | with_reducible refine Below.alloc ?_ (by first | exact Nat.le_refl _ | with_reducible exact HB.out.size | omega | (simp; done) | (simp; omega) | (have := HB.out.size; simp at *; omega)) _ | with_reducible refine Below.setCell ?_ (by first | exact Nat.le_refl _ | with_reducible exact HB.out.size | omega | (simp; done) | (simp; omega) | (have := HB.out.size; simp at *; omega)) _)) b)
          have HR := Lib.hid (Rd.below (by repeat (first | with_reducible exact HR.out | with_reducible apply Rd.drewN | with_reducible apply Rd.drew | with_reducible apply Rd.alloc)) b)
          have K0 : Hid (Box _ (w.heap.size) (c)) := Lib.hid (Box.below (by repeat (first | with_reducible exact K0.out | with_reducible apply Box.drewN | with_reducible apply Box.drew | (with_reducible refine Box.newAt ?_ ?_ <;> first | (simp; done) | rfl) | with_reducible apply Box.alloc)) b)
          try clear k0a k0b k0c k0d k0z
          have k0z := K0.out.lt
          obtain ⟨k0a, k0b, k0c, k0d⟩ := K0.out.cell
          clear b
          clear c0 c1 c2 c3 he
          go_wp2_with fail
          refine (l2_own l (some ⟨ba, o, none⟩) n cp _ HN.out (by omega) (by repeat (first | with_reducible exact HR.out | with_reducible apply Rd.drewN | with_reducible apply Rd.drew | with_reducible apply Rd.alloc)) (fun h => by cases h)).mono ?_
          rintro e w5 ⟨u, rfl, hu, b⟩
          have HZ := Lib.hid HB.out.size
          have Sw5 := Lib.hid b.size
          have HB := Lib.hid (chain0 (w := w) (by repeat (first | with_reducible exact Below.refl _ _ | with_reducible exact HB.out | with_reducible apply Below.drew | with_reducible apply bdN | with_reducible refine Below.alloc ?_ (by first | exact Nat.le_refl _ | with_reducible exact HB.out.size | omega | (simp; done) | (simp; omega) | (have := HB.out.size; simp at *; omega)) _ | with_reducible refine Below.setCell ?_ (by first | exact Nat.le_refl _ | with_reducible exact HB.out.size | omega | (simp; done) | (simp; omega) | (have := HB.out.size; simp at *; omega)) _)) b)
          have HR := Lib.hid (Rd.below (by repeat (first | with_reducible exact HR.out | with_reducible apply Rd.drewN | with_reducible apply Rd.drew | with_reducible apply Rd.alloc)) b)
          have K0 : Hid (Box _ (w.heap.size) (c)) := Lib.hid (Box.below (by repeat (first | with_reducible exact K0.out | with_reducible apply Box.drewN | with_reducible apply Box.drew | (with_reducible refine Box.newAt ?_ ?_ <;> first | (simp; done) | rfl) | with_reducible apply Box.alloc)) b)
          try clear k0a k0b k0c k0d k0z
          have k0z := K0.out.lt
          obtain ⟨k0a, k0b, k0c, k0d⟩ := K0.out.cell
          clear b
          have HU := Lib.hid (hu.base HZ.out)
          clear hu
          go_wp2_with fail
          go_ret
          exact ⟨_, rfl, by rw [HP.out]; exact HU.out, HB.out⟩
    · obtain rfl : k = n := by omega
      have hk0 : l[k]? = none := List.getElem?_eq_none (by rw [HN.out]; exact Nat.le_refl _)
      have HKe := Lib.hid (show k = less l c from less_is (by rw [HN.out]; exact Nat.le_refl _) HF.out (fun y hy => by rw [hk0] at hy; cases hy))
      have ht : there l c = false := there_end (by rw [HN.out, ← HKe.out]; exact Nat.le_refl _)
      have HP := Lib.hid (show put l c = (l.take k ++ [c]) ++ l.drop k by unfold put; rw [if_neg (by simp [ht]), ← HKe.out]; simp)
      have hcp2 : (k : Int) ≤ (cp : Int) := by omega
      clear hk0 ht
      go_wp2_with fail
      have qk0a := fun d os => cell_regrown k0a d os
      have qk0b := fun d os => cell_regrown k0b d os
      have qk0c := fun d os => cell_regrown k0c d os
      have qk0d := fun d os => cell_regrown k0d d os
      refine wp_region_quiet_below (by kernel_rfl) (by kernel_rfl) ?_
      repeat (first | go_big_quiet_step ((fail)) | quiet_step ((fail)))
      refine wpQuiet_nil ?_
      intro w3 hw2
      have b : Below wr.heap.size wr w3 := by obtain ⟨r, hr⟩ := hw2; rw [hr]; exact below_regrown _ _ _
      clear hw2 qk0a qk0b qk0c qk0d
      have Sw3 := Lib.hid b.size
      have HB := Lib.hid (chain0 (w := w) (by repeat (first | with_reducible exact Below.refl _ _ | with_reducible exact HB.out | with_reducible apply Below.drew | with_reducible apply bdN | with_reducible refine Below.alloc ?_ (by first | exact Nat.le_refl _ | with_reducible exact HB.out.size | omega | (simp; done) | (simp; omega) | (have := HB.out.size; simp at *; omega)) _ | with_reducible refine Below.setCell ?_ (by first | exact Nat.le_refl _ | with_reducible exact HB.out.size | omega | (simp; done) | (simp; omega) | (have := HB.out.size; simp at *; omega)) _)) b)
      have HR := Lib.hid (Rd.below (by repeat (first | with_reducible exact HR.out | with_reducible apply Rd.drewN | with_reducible apply Rd.drew | with_reducible apply Rd.alloc)) b)
      have K0 : Hid (Box _ (w.heap.size) (c)) := Lib.hid (Box.below (by repeat (first | with_reducible exact K0.out | with_reducible apply Box.drewN | with_reducible apply Box.drew | (with_reducible refine Box.newAt ?_ ?_ <;> first | (simp; done) | rfl) | with_reducible apply Box.alloc)) b)
      try clear k0a k0b k0c k0d k0z
      have k0z := K0.out.lt
      obtain ⟨k0a, k0b, k0c, k0d⟩ := K0.out.cell
      clear b
      go_wp2_with fail
      have qk0a := fun d os => cell_regrown k0a d os
      have qk0b := fun d os => cell_regrown k0b d os
      have qk0c := fun d os => cell_regrown k0c d os
      have qk0d := fun d os => cell_regrown k0d d os
      refine wp_region_quiet_below (by kernel_rfl) (by kernel_rfl) ?_
      repeat (first | go_big_quiet_step ((fail)) | quiet_step ((fail)))
      refine wpQuiet_nil ?_
      intro w4 hw2
      have b : Below w3.heap.size w3 w4 := by obtain ⟨r, hr⟩ := hw2; rw [hr]; exact below_regrown _ _ _
      clear hw2 qk0a qk0b qk0c qk0d
      have Sw4 := Lib.hid b.size
      have HB := Lib.hid (chain0 (w := w) (by repeat (first | with_reducible exact Below.refl _ _ | with_reducible exact HB.out | with_reducible apply Below.drew | with_reducible apply bdN | with_reducible refine Below.alloc ?_ (by first | exact Nat.le_refl _ | with_reducible exact HB.out.size | omega | (simp; done) | (simp; omega) | (have := HB.out.size; simp at *; omega)) _ | with_reducible refine Below.setCell ?_ (by first | exact Nat.le_refl _ | with_reducible exact HB.out.size | omega | (simp; done) | (simp; omega) | (have := HB.out.size; simp at *; omega)) _)) b)
      have HR := Lib.hid (Rd.below (by repeat (first | with_reducible exact HR.out | with_reducible apply Rd.drewN | with_reducible apply Rd.drew | with_reducible apply Rd.alloc)) b)
      have K0 : Hid (Box _ (w.heap.size) (c)) := Lib.hid (Box.below (by repeat (first | with_reducible exact K0.out | with_reducible apply Box.drewN | with_reducible apply Box.drew | (with_reducible refine Box.newAt ?_ ?_ <;> first | (simp; done) | rfl) | with_reducible apply Box.alloc)) b)
      try clear k0a k0b k0c k0d k0z
      have k0z := K0.out.lt
      obtain ⟨k0a, k0b, k0c, k0d⟩ := K0.out.cell
      clear b
      obtain ⟨W4, hW4⟩ : ∃ W4 : World, W4 = w4 := ⟨_, rfl⟩
      go_wp2_with fail
      have HRt := Lib.hid (HR.out.take k)
      have hcpl : l.length ≤ cp := by rw [HN.out]; exact hcp
      have hz4 := HB.out.size
      go_region_law (first
        | (go_simp; go_at_call 13; refine (l2_own (l.take k) (some ⟨ba, o, none⟩) k cp _ HTl.out (by omega) (by repeat (first | with_reducible exact HRt.out | with_reducible apply Rd.drewN | with_reducible apply Rd.drew | with_reducible apply Rd.alloc)) (fun h => by cases h)).mono ?_; rintro e w5 ⟨u, rfl, hu, b⟩; (first | (have K2 := Lib.hid (Box.below (Box.newD _ c) b)) | (have K2 := Lib.hid (Box.below (Box.new _ c) b)) | skip); have HU : Hid (OwnN w5 w.heap.size u (l.take k)) := Lib.hid (hu.base (by first | exact hz4 | (simp; omega))); have HB := Lib.hid (chain0 (w := w) (by repeat (first | with_reducible exact Below.refl _ _ | with_reducible exact HB.out | with_reducible apply Below.drew | with_reducible apply bdN | with_reducible refine Below.alloc ?_ (by first | exact Nat.le_refl _ | with_reducible exact HB.out.size | omega | (simp; done) | (simp; omega) | (have := HB.out.size; simp at *; omega)) _ | with_reducible refine Below.setCell ?_ (by first | exact Nat.le_refl _ | with_reducible exact HB.out.size | omega | (simp; done) | (simp; omega) | (have := HB.out.size; simp at *; omega)) _)) b); have HRt := Lib.hid (Rd.below (by repeat (first | with_reducible exact HRt.out | with_reducible apply Rd.drewN | with_reducible apply Rd.drew | with_reducible apply Rd.alloc)) b); have K0 : Hid (Box _ (w.heap.size) (c)) := Lib.hid (Box.below (by repeat (first | with_reducible exact K0.out | with_reducible apply Box.drewN | with_reducible apply Box.drew | (with_reducible refine Box.newAt ?_ ?_ <;> first | (simp; done) | rfl) | with_reducible apply Box.alloc)) b); obtain ⟨k0a, k0b, k0c, k0d⟩ := K0.out.cell; have k0z := K0.out.lt; clear hu)
        | (refine step_append_cards rfl (.tmp 40) (.tmp 43) rfl w.heap.size v1 (l.take k ++ [c]) (l.drop k) _ _ _ rfl rfl ?_ ?_ ?_ ?_ ?_ ?_ ?_
           · first | exact HO1.out | exact HO1.out.drew
           · first | exact HDl.out | (rw [HDl.out]; simp)
           · exact HRd.out
           · intro h; split at h <;> cases h
           · rw [List.length_append]; have := HTl.out; simp; omega
           · exact HB.out.size
           intro v2 w7 hO2 hB2 hG2
           have HO2 := Lib.hid hO2
           have HB := Lib.hid (HB.out.trans hB2)
           clear hO2 hB2 hG2)
        | (refine step_append_cards rfl (.tmp 37) (.tmp 39) rfl w.heap.size u (l.take k) [c] _ 1 1 rfl rfl ?_ rfl ?_ ?_ ?_ ?_ ?_
           · first | exact HU.out | exact HU.out.alloc _ | exact (HU.out.alloc _).drew
           · first | exact Box.rd1 K2.out | exact Box.rd1 (Box.newD _ c) | exact Box.rd1 (Box.new _ c)
           · intro h; cases h
           · have := HTl.out; simp; omega
           · first | exact HB.out.size | (have := HB.out.size; simp; omega)
           intro v1 w6 hO1 hB1 hG1
           have HO1 := Lib.hid hO1
           have hbb : Below w.heap.size w w6 := Below.trans (by first | exact HB.out | exact HB.out.alloc HB.out.size _ | exact (HB.out.alloc HB.out.size _).drew) hB1
           have HB := Lib.hid hbb
           have HRd := Lib.hid ((HR0.out.below hbb).dropIf (cp := cp) k hcpl)
           clear hO1 hB1 hG1 hbb))
      all_goals
        go_wp2_with fail
        all_goals go_ret
        all_goals exact ⟨_, rfl, by rw [HP.out]; exact HO2.out, HB.out⟩
end Go.Proofs.Ytghfplmpfgkmeaa.cards

/- FillCap: the program's and the model's. -/
namespace Go.Proofs.Ytghfplmpfgkmeaa.chance
open Go.RowKit
open cards reg
set_option linter.unusedVariables false

set_option maxRecDepth 100000 in
set_option maxHeartbeats 2000000 in
theorem clone_c (l : List Cd) (b o n c : Nat) (w : World) (hn : l.length = n) (hl : n ≤ 1000000) (hr : Rd w (some ⟨b, o, none⟩) (flat l)) :
    Calls Try.prog 20 #[.slice (some ⟨b, o, none⟩) n c] w fun e w' => ∃ g c', e = .returned (.slice (some ⟨g, 0, none⟩) n c') ∧ Own w' w.heap.size (.slice (some ⟨g, 0, none⟩) n c') l ∧ Below w.heap.size w w' := by
  have HN := Lib.hid hn
  have HO := Lib.hid (Own.empty w w.heap.size (Nat.le_refl _))
  have HB0 : Hid (Below w.heap.size w (w.alloc (.cells #[] 32))) := Lib.hid ((Below.refl _ _).alloc (Nat.le_refl _) _)
  have q22 : ∀ (w : World) (a : Option Addr) (n c n' c' : Nat), (binOp .eql 22 (.slice a n c) (.slice none n' c')).run Try.prog w = .ok (.bool a.isNone) w := fun w a n c n' c' => Lib.run_eql_slice_nil w _ _ a n c n' c' Try.underlying22
  have hrun := run_append_cards (w.alloc (.cells #[] 32)) 22 w.heap.size (.slice (some ⟨w.heap.size, 0, none⟩) 0 0) [] l (some ⟨b, o, none⟩) n c HO.out hn (hr.alloc _) (by intro h; cases h) (by simp; omega) HB0.out.size
  obtain ⟨v', w', hr0, hO1, hB1, _, hne, _⟩ := hrun
  rw [List.nil_append] at hO1
  have hform : ∃ g c', v' = .slice (some ⟨g, 0, none⟩) n c' := by
    have hv := hne (by intro h; cases h)
    obtain ⟨h1, ⟨e, _⟩ | ⟨g1, cap1, cur1, e1, _⟩⟩ := hO1
    · exact absurd e hv
    · exact ⟨g1, cap1, by rw [e1, hn]⟩
  obtain ⟨g, c', rfl⟩ := hform
  have HO1 := Lib.hid hO1
  have HB1 := Lib.hid (HB0.out.trans hB1)
  clear hn hr hO1 hB1 hne
  go_enter Try.func20, Try.ntmps20
  go_wp2_with (at_builtin; refine Lib.wpList_append_run _ rfl (.tmp 5) (.tmp 6) _ _ rfl _ _ rfl rfl _ _ hr0 ?_)
  go_ret
  exact ⟨g, c', rfl, HO1.out, HB1.out⟩
theorem fc_one {l m : List Cd} (h : fcR l = (m, true)) : (fcR l).1 = m := by rw [h]
theorem fc_two {l m : List Cd} (h : fcR l = (m, true)) : (fcR l).2 = true := by rw [h]
theorem ret_hb {u : Value} {a b : Bool} (h : a = b) : Ending.returned (.tuple #[u, .bool a]) = .returned (.tuple #[u, .bool b]) := by rw [h]

set_option maxRecDepth 100000 in
set_option maxHeartbeats 4000000 in
theorem impl_fc (l : List Cd) (b0 o0 n c : Nat) (w : World) (hn : l.length = n) (hl : n ≤ 1000000000) (hr : Rd w (some ⟨b0, o0, none⟩) (flat l)) (hcp : n ≤ c) :
    Calls Try.prog 7 #[.slice (some ⟨b0, o0, none⟩) n c] w fun e w' => ∃ u, e = .returned (.tuple #[u, .bool (fcR l).2]) ∧ Own w' w.heap.size u (fcR l).1 ∧ Below w.heap.size w w' := by
  have HN := Lib.hid hn
  have HR := Lib.hid hr
  clear hn hr
  go_enter Try.func7, Try.ntmps7
  go_wp2_with fail
  refine ((is_hand l (some ⟨b0, o0, none⟩) n c _ HN.out hl (by repeat (first | with_reducible exact HR.out | with_reducible apply Rd.drewN | with_reducible apply Rd.drew | with_reducible apply Rd.alloc)))).mono ?_
  rintro e w1 ⟨rfl, b⟩
  have Sw1 := Lib.hid b.size
  have HB := Lib.hid (chain0 (w := w) (by repeat (first | with_reducible exact Below.refl _ _ | with_reducible exact HB.out | with_reducible apply Below.drew | with_reducible apply bdN | with_reducible refine Below.alloc ?_ (by first | exact Nat.le_refl _ | with_reducible exact HB.out.size | omega | (simp; done) | (simp; omega) | (have := HB.out.size; simp at *; omega)) _ | with_reducible refine Below.setCell ?_ (by first | exact Nat.le_refl _ | with_reducible exact HB.out.size | omega | (simp; done) | (simp; omega) | (have := HB.out.size; simp at *; omega)) _)) b)
  have HR := Lib.hid (Rd.below (by repeat (first | with_reducible exact HR.out | with_reducible apply Rd.drewN | with_reducible apply Rd.drew | with_reducible apply Rd.alloc)) b)
  clear b
  cases hh : handB l
  · have HT : Hid (fcR l = ([], false)) := Lib.hid (if_neg (by simp [hh]))
    go_wp2_with fail
    go_ret2
    exact ⟨_, ret_hb (by rw [HT.out]), by rw [HT.out]; exact Own.empty _ _ HB.out.size, by repeat (first | with_reducible exact Below.refl _ _ | with_reducible exact HB.out | with_reducible apply Below.drew | with_reducible apply bdN | with_reducible refine Below.alloc ?_ (by first | exact Nat.le_refl _ | with_reducible exact HB.out.size | omega | (simp; done) | (simp; omega) | (have := HB.out.size; simp at *; omega)) _ | with_reducible refine Below.setCell ?_ (by first | exact Nat.le_refl _ | with_reducible exact HB.out.size | omega | (simp; done) | (simp; omega) | (have := HB.out.size; simp at *; omega)) _)⟩
  · have hHd := handB_true.1 hh
    have h27 : n ≤ 27 := by have := hHd.1; have := HN.out; omega
    go_wp2_with fail
    refine ((are_cap l (some ⟨b0, o0, none⟩) n c _ HN.out (by omega) hcp (by repeat (first | with_reducible exact HR.out | with_reducible apply Rd.drewN | with_reducible apply Rd.drew | with_reducible apply Rd.alloc)) hHd.2.1 hHd.2.2)).mono ?_
    rintro e w2 ⟨rfl, b⟩
    have Sw2 := Lib.hid b.size
    have HB := Lib.hid (chain0 (w := w) (by repeat (first | with_reducible exact Below.refl _ _ | with_reducible exact HB.out | with_reducible apply Below.drew | with_reducible apply bdN | with_reducible refine Below.alloc ?_ (by first | exact Nat.le_refl _ | with_reducible exact HB.out.size | omega | (simp; done) | (simp; omega) | (have := HB.out.size; simp at *; omega)) _ | with_reducible refine Below.setCell ?_ (by first | exact Nat.le_refl _ | with_reducible exact HB.out.size | omega | (simp; done) | (simp; omega) | (have := HB.out.size; simp at *; omega)) _)) b)
    have HR := Lib.hid (Rd.below (by repeat (first | with_reducible exact HR.out | with_reducible apply Rd.drewN | with_reducible apply Rd.drew | with_reducible apply Rd.alloc)) b)
    clear b
    cases hc : capB l
    · have HT : Hid (fcR l = ([], false)) := Lib.hid (if_neg (by simp [hc]))
      go_wp2_with fail
      go_ret2
      exact ⟨_, ret_hb (by rw [HT.out]), by rw [HT.out]; exact Own.empty _ _ HB.out.size, by repeat (first | with_reducible exact Below.refl _ _ | with_reducible exact HB.out | with_reducible apply Below.drew | with_reducible apply bdN | with_reducible refine Below.alloc ?_ (by first | exact Nat.le_refl _ | with_reducible exact HB.out.size | omega | (simp; done) | (simp; omega) | (have := HB.out.size; simp at *; omega)) _ | with_reducible refine Below.setCell ?_ (by first | exact Nat.le_refl _ | with_reducible exact HB.out.size | omega | (simp; done) | (simp; omega) | (have := HB.out.size; simp at *; omega)) _)⟩
    · have HT : Hid (fcR l = (fill l 81, true)) := Lib.hid (if_pos ⟨hh, hc⟩)
      have HT1 := Lib.hid (fc_one HT.out)
      have HT2 := Lib.hid (fc_two HT.out)
      clear HT
      have HGd := Lib.hid (fun k (hk : k ≤ 81) => fill_good hHd.2.2 hHd.2.1 k hk)
      clear hh hc hHd
      go_wp2_with fail
      refine (clone_c l b0 o0 n c _ HN.out (by omega) HR.out).mono ?_
      rintro e w3 ⟨g3, c3, rfl, hO3, b⟩
      have HO : Hid (Own w3 w.heap.size (.slice (some ⟨g3, 0, none⟩) n c3) (fill l 0)) := Lib.hid (hO3.base (by have h1 := Sw1.out; have h2 := Sw2.out; omega))
      have HB := Lib.hid (chain0 (w := w) (by repeat (first | with_reducible exact Below.refl _ _ | with_reducible exact HB.out | with_reducible apply Below.drew | with_reducible apply bdN | with_reducible refine Below.alloc ?_ (by first | exact Nat.le_refl _ | with_reducible exact HB.out.size | omega | (simp; done) | (simp; omega) | (have := HB.out.size; simp at *; omega)) _ | with_reducible refine Below.setCell ?_ (by first | exact Nat.le_refl _ | with_reducible exact HB.out.size | omega | (simp; done) | (simp; omega) | (have := HB.out.size; simp at *; omega)) _)) b); have HR := Lib.hid (Rd.below (by repeat (first | with_reducible exact HR.out | with_reducible apply Rd.drewN | with_reducible apply Rd.drew | with_reducible apply Rd.alloc)) b)
      clear hO3 b
      go_wp2_with fail
      go_loopw [4, 20] (fun v i wr => ∃ (k m g ch : Nat), k ≤ 81 ∧ i = .int .i64 k ∧ v = .slice (some ⟨g, 0, none⟩) m ch ∧ m ≤ 200 ∧ Hid ((fill l k).length = m) ∧ Hid (Own wr w.heap.size (.slice (some ⟨g, 0, none⟩) m ch) (fill l k)) ∧ Hid (Below w.heap.size w wr)) (fun _ i _ => 81 - (intOf i).toNat)
      case atStart => exact ⟨0, n, g3, c3, by omega, rfl, rfl, by omega, HN, HO, HB⟩
      case round =>
        clear HO HB
        obtain ⟨k, m, g, ch, hk, rfl, rfl, hm2, HM, HO, HB⟩ := hrel
        by_cases hlt : k < 81
        · have m0 : (0 : Int) ≤ (k : Int) := by omega
          have m1 : (k : Int) < 81 := by omega
          obtain ⟨q1, q2, q3, _⟩ := HGd.out k hk
          have hko := cdAt_okN (n := (k : Int)) m0 (by omega)
          have HPI := fun w' hr => place_in (fill l k) (cdAt (k : Int)) (some ⟨g, 0, none⟩) m ch w' HM.out (by omega) hr q2 hko q1
          have HML := fun w' hr => makes_line (fill l k) (cdAt (k : Int)) (some ⟨g, 0, none⟩) m ch w' HM.out (by omega) hr q2 hko q1
          have hll : less (fill l k) (cdAt (k : Int)) ≤ m := by rw [← HM.out]; exact (List.takeWhile_sublist _).length_le
          have HIn := Lib.hid (fun w' gv hO hv hne hB => insert_cd (fill l k) (cdAt (k : Int)) w.heap.size g m ch gv (less (fill l k) (cdAt (k : Int))) w' HM.out (by omega) hll hO hv hne hB)
          go_wp2_with fail
          refine ((card_of (k : Int) _ m0 (by omega))).mono ?_
          rintro e w4 ⟨rfl, b⟩
          have Sw4 := Lib.hid b.size
          have HB := Lib.hid (chain0 (w := w) (by repeat (first | with_reducible exact Below.refl _ _ | with_reducible exact HB.out | with_reducible apply Below.drew | with_reducible apply bdN | with_reducible refine Below.alloc ?_ (by first | exact Nat.le_refl _ | with_reducible exact HB.out.size | omega | (simp; done) | (simp; omega) | (have := HB.out.size; simp at *; omega)) _ | with_reducible refine Below.setCell ?_ (by first | exact Nat.le_refl _ | with_reducible exact HB.out.size | omega | (simp; done) | (simp; omega) | (have := HB.out.size; simp at *; omega)) _)) b)
          have HO := Lib.hid (Own.below (by repeat (first | with_reducible exact HO.out | with_reducible apply Own.drewN | with_reducible apply Own.drew | with_reducible apply Own.alloc)) b)
          clear b
          cases ht : there (fill l k) (cdAt (k : Int))
          · obtain ⟨y, hy⟩ : ∃ y, decide (0 < thr (fill l k) (cdAt (k : Int)) m) = y := ⟨_, rfl⟩
            have hfr : fre (fill l k) (cdAt (k : Int)) = !y := by unfold fre; rw [ht, HM.out, hy]; rfl
            have hpu := put_isE ht
            have hpl := put_len ht
            rw [ht] at HPI
            rw [hy] at HML
            have HPI := Lib.hid HPI
            have HML := Lib.hid HML
            generalize less (fill l k) (cdAt (k : Int)) = li at *
            cases y
            · have hF := fill_yes hfr
              have HF := Lib.hid (show fill l (k + 1) = insC (fill l k) li (cdAt (k : Int)) from hF.trans hpu)
              have HM2 := Lib.hid (show (fill l (k + 1)).length = m + 1 by rw [hF, hpl, HM.out])
              have hm3 : m + 1 ≤ 200 := by
                have h1 := (HGd.out (k + 1) (by omega)).2.2.1
                rw [HM2.out, HN.out] at h1; omega
              clear hF hpu hpl hfr ht hy q1 q2 q3 hko
              go_wp2_with fail
              refine ((HPI.out _ (Own.rd HO.out |>.alloc _))).mono ?_
              rintro e w5 ⟨rfl, b⟩
              have Sw5 := Lib.hid b.size
              have HB := Lib.hid (chain0 (w := w) (by repeat (first | with_reducible exact Below.refl _ _ | with_reducible exact HB.out | with_reducible apply Below.drew | with_reducible apply bdN | with_reducible refine Below.alloc ?_ (by first | exact Nat.le_refl _ | with_reducible exact HB.out.size | omega | (simp; done) | (simp; omega) | (have := HB.out.size; simp at *; omega)) _ | with_reducible refine Below.setCell ?_ (by first | exact Nat.le_refl _ | with_reducible exact HB.out.size | omega | (simp; done) | (simp; omega) | (have := HB.out.size; simp at *; omega)) _)) b)
              have HO := Lib.hid (Own.below (by repeat (first | with_reducible exact HO.out | with_reducible apply Own.drewN | with_reducible apply Own.drew | with_reducible apply Own.alloc)) b)
              have K1 : Hid (Box _ (w4.heap.size) ((cdAt (k : Int)))) := Lib.hid (Box.below (by repeat (first | with_reducible exact K1.out | with_reducible apply Box.drewN | with_reducible apply Box.drew | (with_reducible refine Box.newAt ?_ ?_ <;> first | (simp; done) | rfl) | with_reducible apply Box.alloc)) b)
              try clear k1a k1b k1c k1d k1z
              have k1z := K1.out.lt
              obtain ⟨k1a, k1b, k1c, k1d⟩ := K1.out.cell
              clear b
              go_wp2_with fail
              refine ((HML.out _ (Own.rd HO.out))).mono ?_
              rintro e w6 ⟨rfl, b⟩
              have Sw6 := Lib.hid b.size
              have HB := Lib.hid (chain0 (w := w) (by repeat (first | with_reducible exact Below.refl _ _ | with_reducible exact HB.out | with_reducible apply Below.drew | with_reducible apply bdN | with_reducible refine Below.alloc ?_ (by first | exact Nat.le_refl _ | with_reducible exact HB.out.size | omega | (simp; done) | (simp; omega) | (have := HB.out.size; simp at *; omega)) _ | with_reducible refine Below.setCell ?_ (by first | exact Nat.le_refl _ | with_reducible exact HB.out.size | omega | (simp; done) | (simp; omega) | (have := HB.out.size; simp at *; omega)) _)) b)
              have HO := Lib.hid (Own.below (by repeat (first | with_reducible exact HO.out | with_reducible apply Own.drewN | with_reducible apply Own.drew | with_reducible apply Own.alloc)) b)
              have K1 : Hid (Box _ (w4.heap.size) ((cdAt (k : Int)))) := Lib.hid (Box.below (by repeat (first | with_reducible exact K1.out | with_reducible apply Box.drewN | with_reducible apply Box.drew | (with_reducible refine Box.newAt ?_ ?_ <;> first | (simp; done) | rfl) | with_reducible apply Box.alloc)) b)
              try clear k1a k1b k1c k1d k1z
              have k1z := K1.out.lt
              obtain ⟨k1a, k1b, k1c, k1d⟩ := K1.out.cell
              clear b
              have hgl := (HO.out.span g rfl).2
              have HO5 := Lib.hid (HO.out.alloc (cdAt (k : Int)).obj)
              have HB5 := Lib.hid (HB.out.alloc HB.out.size (cdAt (k : Int)).obj)
              have HV5 := Lib.hid (Box.new w6 (cdAt (k : Int)))
              have HNe := Lib.hid (show w6.heap.size ≠ g by omega)
              clear hgl
              go_wp2_with fail
              refine (HIn.out _ w6.heap.size HO5.out HV5.out HNe.out HB5.out.size).mono ?_
              rintro e w7 ⟨g6, c6, rfl, hO6, hB6⟩
              have HO6 : Hid (Own w7 w.heap.size (.slice (some ⟨g6, 0, none⟩) (m + 1) c6) (fill l (k + 1))) := Lib.hid (by rw [HF.out]; exact hO6)
              have HB6 := Lib.hid (HB5.out.trans hB6)
              clear hO6 hB6
              go_wp2_with fail
              go_roundw
              case rel => exact ⟨k + 1, m + 1, g6, c6, by omega, by go_num, rfl, hm3, HM2, HO6, HB6⟩
              case measure => simp [intOf]; omega
            · have hF := fill_no hfr
              have HM2 := Lib.hid (show (fill l (k + 1)).length = m by rw [hF, HM.out])
              have HFe := Lib.hid hF
              clear hF hpu hpl hfr ht hy q1 q2 q3 hko
              go_wp2_with fail
              refine ((HPI.out _ (Own.rd HO.out |>.alloc _))).mono ?_
              rintro e w5 ⟨rfl, b⟩
              have Sw5 := Lib.hid b.size
              have HB := Lib.hid (chain0 (w := w) (by repeat (first | with_reducible exact Below.refl _ _ | with_reducible exact HB.out | with_reducible apply Below.drew | with_reducible apply bdN | with_reducible refine Below.alloc ?_ (by first | exact Nat.le_refl _ | with_reducible exact HB.out.size | omega | (simp; done) | (simp; omega) | (have := HB.out.size; simp at *; omega)) _ | with_reducible refine Below.setCell ?_ (by first | exact Nat.le_refl _ | with_reducible exact HB.out.size | omega | (simp; done) | (simp; omega) | (have := HB.out.size; simp at *; omega)) _)) b)
              have HO := Lib.hid (Own.below (by repeat (first | with_reducible exact HO.out | with_reducible apply Own.drewN | with_reducible apply Own.drew | with_reducible apply Own.alloc)) b)
              have K1 : Hid (Box _ (w4.heap.size) ((cdAt (k : Int)))) := Lib.hid (Box.below (by repeat (first | with_reducible exact K1.out | with_reducible apply Box.drewN | with_reducible apply Box.drew | (with_reducible refine Box.newAt ?_ ?_ <;> first | (simp; done) | rfl) | with_reducible apply Box.alloc)) b)
              try clear k1a k1b k1c k1d k1z
              have k1z := K1.out.lt
              obtain ⟨k1a, k1b, k1c, k1d⟩ := K1.out.cell
              clear b
              go_wp2_with fail
              refine ((HML.out _ (Own.rd HO.out))).mono ?_
              rintro e w6 ⟨rfl, b⟩
              have Sw6 := Lib.hid b.size
              have HB := Lib.hid (chain0 (w := w) (by repeat (first | with_reducible exact Below.refl _ _ | with_reducible exact HB.out | with_reducible apply Below.drew | with_reducible apply bdN | with_reducible refine Below.alloc ?_ (by first | exact Nat.le_refl _ | with_reducible exact HB.out.size | omega | (simp; done) | (simp; omega) | (have := HB.out.size; simp at *; omega)) _ | with_reducible refine Below.setCell ?_ (by first | exact Nat.le_refl _ | with_reducible exact HB.out.size | omega | (simp; done) | (simp; omega) | (have := HB.out.size; simp at *; omega)) _)) b)
              have HO := Lib.hid (Own.below (by repeat (first | with_reducible exact HO.out | with_reducible apply Own.drewN | with_reducible apply Own.drew | with_reducible apply Own.alloc)) b)
              have K1 : Hid (Box _ (w4.heap.size) ((cdAt (k : Int)))) := Lib.hid (Box.below (by repeat (first | with_reducible exact K1.out | with_reducible apply Box.drewN | with_reducible apply Box.drew | (with_reducible refine Box.newAt ?_ ?_ <;> first | (simp; done) | rfl) | with_reducible apply Box.alloc)) b)
              try clear k1a k1b k1c k1d k1z
              have k1z := K1.out.lt
              obtain ⟨k1a, k1b, k1c, k1d⟩ := K1.out.cell
              clear b
              go_wp2_with fail
              go_roundw
              case rel => exact ⟨k + 1, m, g, ch, by omega, by go_num, rfl, hm2, HM2, by rw [HFe.out]; exact HO, HB⟩
              case measure => simp [intOf]; omega
          · have hfr : fre (fill l k) (cdAt (k : Int)) = false := by unfold fre; rw [ht]; rfl
            have hF := fill_no hfr
            have HM2 := Lib.hid (show (fill l (k + 1)).length = m by rw [hF, HM.out])
            have HFe := Lib.hid hF
            rw [ht] at HPI
            have HPI := Lib.hid HPI
            clear hF hfr ht q1 q2 q3 hko HML
            go_wp2_with fail
            refine ((HPI.out _ (Own.rd HO.out |>.alloc _))).mono ?_
            rintro e w5 ⟨rfl, b⟩
            have Sw5 := Lib.hid b.size
            have HB := Lib.hid (chain0 (w := w) (by repeat (first | with_reducible exact Below.refl _ _ | with_reducible exact HB.out | with_reducible apply Below.drew | with_reducible apply bdN | with_reducible refine Below.alloc ?_ (by first | exact Nat.le_refl _ | with_reducible exact HB.out.size | omega | (simp; done) | (simp; omega) | (have := HB.out.size; simp at *; omega)) _ | with_reducible refine Below.setCell ?_ (by first | exact Nat.le_refl _ | with_reducible exact HB.out.size | omega | (simp; done) | (simp; omega) | (have := HB.out.size; simp at *; omega)) _)) b)
            have HO := Lib.hid (Own.below (by repeat (first | with_reducible exact HO.out | with_reducible apply Own.drewN | with_reducible apply Own.drew | with_reducible apply Own.alloc)) b)
            have K1 : Hid (Box _ (w4.heap.size) ((cdAt (k : Int)))) := Lib.hid (Box.below (by repeat (first | with_reducible exact K1.out | with_reducible apply Box.drewN | with_reducible apply Box.drew | (with_reducible refine Box.newAt ?_ ?_ <;> first | (simp; done) | rfl) | with_reducible apply Box.alloc)) b)
            try clear k1a k1b k1c k1d k1z
            have k1z := K1.out.lt
            obtain ⟨k1a, k1b, k1c, k1d⟩ := K1.out.cell
            clear b
            go_wp2_with fail
            go_roundw
            case rel => exact ⟨k + 1, m, g, ch, by omega, by go_num, rfl, hm2, HM2, by rw [HFe.out]; exact HO, HB⟩
            case measure => simp [intOf]; omega
        · have hk81 : k = 81 := by omega
          subst hk81
          go_wp2_with fail
          go_ret2
          exact ⟨_, ret_hb HT2.out.symm, by rw [HT1.out]; exact HO.out, HB.out⟩
end Go.Proofs.Ytghfplmpfgkmeaa.chance

/- FillCap: the model's. -/
namespace Go.Proofs.Ytghfplmpfgkmeaa.chance
open Go.RowKit
open cards reg
set_option linter.unusedVariables false

theorem fill_next {l : List Cd} (hs : sorted l) (hok : l.all Cd.ok = true) {k : Nat} (hk : k ≤ 81) {j : Int} (h : (nums (fre (fill l k)) 81)[0]? = some j) :
    ∃ i : Nat, j = (i : Int) ∧ i < 81 ∧ fill l (i + 1) = put (fill l k) (cdAt (i : Int)) ∧ there (fill l k) (cdAt (i : Int)) = false := by
  obtain ⟨i, h1, h2, h3, h4⟩ := nums_head h
  have h5 := (fill_good hs hok k hk).2.2.2
  have hki : k ≤ i := by
    rcases Nat.lt_or_ge i k with hlt | hge
    · rw [h5 i hlt] at h3; cases h3
    · exact hge
  have h6 := fill_stay (l := l) (k := k) (j := i) (fun i' _ h => h4 i' h) (i - k) (by omega)
  have h7 : k + (i - k) = i := by omega
  rw [h7] at h6
  refine ⟨i, h1, h2, ?_, fre_there h3⟩
  rw [fill_yes (by rw [h6]; exact h3), h6]
theorem fill_last {l : List Cd} {k : Nat} (hk : k ≤ 81) (h : nums (fre (fill l k)) 81 = []) : fill l 81 = fill l k := by
  have h6 := fill_stay (l := l) (k := k) (j := 81) (fun i' _ hi => nums_nil h i' hi) (81 - k) (by omega)
  have h7 : k + (81 - k) = 81 := by omega
  rw [h7] at h6
  exact h6
theorem l3_free (L : List Cd) (p : Option Addr) (n cp : Nat) (w : World) (hn : L.length = n) (hl : n ≤ 1000) (hr : Rd w p (flat L)) (hok : L.all Cd.ok = true) (hs : sorted L) :
    Calls Try.prog 14 #[.slice p n cp, .bool false] w fun e w' => ∃ pf q cf, e = .returned (.slice pf q cf) ∧ (nums (fre L) 81).length = q ∧ q ≤ cf ∧ Rd w' pf (ints (nums (fre L) 81)) ∧ Below w.heap.size w w' := by
  refine (l3_cards L false p n cp w hn hl hr hok hs).mono ?_
  rintro e w' ⟨u, rfl, hu, b⟩
  rw [sel_false] at hu
  obtain ⟨pf, cf, rfl, h1, h2, _⟩ := hu.form
  exact ⟨pf, _, cf, rfl, rfl, h1, h2, b⟩
theorem fc_len (l : List Cd) : (fcR l).1.length ≤ 108 := by
  by_cases h : handB l = true ∧ capB l = true
  · have hHd := handB_true.1 h.1
    have h1 := (fill_good hHd.2.2 hHd.2.1 81 (Nat.le_refl _)).2.2.1
    have h2 := hHd.1
    have HT : fcR l = (fill l 81, true) := if_pos h
    rw [fc_one HT]
    omega
  · have HT : fcR l = ([], false) := if_neg h
    rw [HT]
    exact Nat.zero_le _
def slLen : Value → Nat
  | .slice _ n _ => n
  | _ => 0

set_option maxRecDepth 100000 in
set_option maxHeartbeats 4000000 in
theorem spec_fc (l : List Cd) (b0 o0 n c : Nat) (w : World) (hn : l.length = n) (hl : n ≤ 1000000000) (hr : Rd w (some ⟨b0, o0, none⟩) (flat l)) :
    Calls Try.prog 5 #[.slice (some ⟨b0, o0, none⟩) n c] w fun e w' => ∃ u, e = .returned (.tuple #[u, .bool (fcR l).2]) ∧ Own w' w.heap.size u (fcR l).1 ∧ Below w.heap.size w w' := by
  have HN := Lib.hid hn
  have HR := Lib.hid hr
  clear hn hr
  go_enter Try.func5, Try.ntmps5
  go_wp2_with fail
  refine ((l2_hand l (some ⟨b0, o0, none⟩) n c _ HN.out hl (by repeat (first | with_reducible exact HR.out | with_reducible apply Rd.drewN | with_reducible apply Rd.drew | with_reducible apply Rd.alloc)))).mono ?_
  rintro e w1 ⟨rfl, b⟩
  have Sw1 := Lib.hid b.size
  have HB := Lib.hid (chain0 (w := w) (by repeat (first | with_reducible exact Below.refl _ _ | with_reducible exact HB.out | with_reducible apply Below.drew | with_reducible apply bdN | with_reducible refine Below.alloc ?_ (by first | exact Nat.le_refl _ | with_reducible exact HB.out.size | omega | (simp; done) | (simp; omega) | (have := HB.out.size; simp at *; omega)) _ | with_reducible refine Below.setCell ?_ (by first | exact Nat.le_refl _ | with_reducible exact HB.out.size | omega | (simp; done) | (simp; omega) | (have := HB.out.size; simp at *; omega)) _)) b)
  have HR := Lib.hid (Rd.below (by repeat (first | with_reducible exact HR.out | with_reducible apply Rd.drewN | with_reducible apply Rd.drew | with_reducible apply Rd.alloc)) b)
  clear b
  cases hh : handB l
  · have HT : Hid (fcR l = ([], false)) := Lib.hid (if_neg (by simp [hh]))
    go_wp2_with fail
    go_ret2
    exact ⟨_, ret_hb (by rw [HT.out]), by rw [HT.out]; exact Own.empty _ _ HB.out.size, by repeat (first | with_reducible exact Below.refl _ _ | with_reducible exact HB.out | with_reducible apply Below.drew | with_reducible apply bdN | with_reducible refine Below.alloc ?_ (by first | exact Nat.le_refl _ | with_reducible exact HB.out.size | omega | (simp; done) | (simp; omega) | (have := HB.out.size; simp at *; omega)) _ | with_reducible refine Below.setCell ?_ (by first | exact Nat.le_refl _ | with_reducible exact HB.out.size | omega | (simp; done) | (simp; omega) | (have := HB.out.size; simp at *; omega)) _)⟩
  · have hHd := handB_true.1 hh
    have h27 : n ≤ 27 := by have := hHd.1; have := HN.out; omega
    go_wp2_with fail
    refine ((l3_cap l (some ⟨b0, o0, none⟩) n c _ HN.out h27 (by repeat (first | with_reducible exact HR.out | with_reducible apply Rd.drewN | with_reducible apply Rd.drew | with_reducible apply Rd.alloc)) hHd.2.1 hHd.2.2)).mono ?_
    rintro e w2 ⟨rfl, b⟩
    have Sw2 := Lib.hid b.size
    have HB := Lib.hid (chain0 (w := w) (by repeat (first | with_reducible exact Below.refl _ _ | with_reducible exact HB.out | with_reducible apply Below.drew | with_reducible apply bdN | with_reducible refine Below.alloc ?_ (by first | exact Nat.le_refl _ | with_reducible exact HB.out.size | omega | (simp; done) | (simp; omega) | (have := HB.out.size; simp at *; omega)) _ | with_reducible refine Below.setCell ?_ (by first | exact Nat.le_refl _ | with_reducible exact HB.out.size | omega | (simp; done) | (simp; omega) | (have := HB.out.size; simp at *; omega)) _)) b)
    have HR := Lib.hid (Rd.below (by repeat (first | with_reducible exact HR.out | with_reducible apply Rd.drewN | with_reducible apply Rd.drew | with_reducible apply Rd.alloc)) b)
    clear b
    cases hc : capB l
    · have HT : Hid (fcR l = ([], false)) := Lib.hid (if_neg (by simp [hc]))
      go_wp2_with fail
      go_ret2
      exact ⟨_, ret_hb (by rw [HT.out]), by rw [HT.out]; exact Own.empty _ _ HB.out.size, by repeat (first | with_reducible exact Below.refl _ _ | with_reducible exact HB.out | with_reducible apply Below.drew | with_reducible apply bdN | with_reducible refine Below.alloc ?_ (by first | exact Nat.le_refl _ | with_reducible exact HB.out.size | omega | (simp; done) | (simp; omega) | (have := HB.out.size; simp at *; omega)) _ | with_reducible refine Below.setCell ?_ (by first | exact Nat.le_refl _ | with_reducible exact HB.out.size | omega | (simp; done) | (simp; omega) | (have := HB.out.size; simp at *; omega)) _)⟩
    · have HT : Hid (fcR l = (fill l 81, true)) := Lib.hid (if_pos ⟨hh, hc⟩)
      have HT1 := Lib.hid (fc_one HT.out)
      have HT2 := Lib.hid (fc_two HT.out)
      clear HT
      have HGd := Lib.hid (fun k (hk : k ≤ 81) => fill_good hHd.2.2 hHd.2.1 k hk)
      have HNx := Lib.hid (fun k (hk : k ≤ 81) j => @fill_next l hHd.2.2 hHd.2.1 k hk j)
      clear hh hc hHd
      have hz2 := HB.out.size
      go_wp2_with fail
      refine ((l2_own l (some ⟨b0, o0, none⟩) n c _ HN.out (by omega) (by repeat (first | with_reducible exact HR.out | with_reducible apply Rd.drewN | with_reducible apply Rd.drew | with_reducible apply Rd.alloc)) (fun h => by cases h))).mono ?_
      rintro e w3 ⟨u, rfl, hu, b⟩
      have Sw3 := Lib.hid b.size
      have HB := Lib.hid (chain0 (w := w) (by repeat (first | with_reducible exact Below.refl _ _ | with_reducible exact HB.out | with_reducible apply Below.drew | with_reducible apply bdN | with_reducible refine Below.alloc ?_ (by first | exact Nat.le_refl _ | with_reducible exact HB.out.size | omega | (simp; done) | (simp; omega) | (have := HB.out.size; simp at *; omega)) _ | with_reducible refine Below.setCell ?_ (by first | exact Nat.le_refl _ | with_reducible exact HB.out.size | omega | (simp; done) | (simp; omega) | (have := HB.out.size; simp at *; omega)) _)) b)
      have HR := Lib.hid (Rd.below (by repeat (first | with_reducible exact HR.out | with_reducible apply Rd.drewN | with_reducible apply Rd.drew | with_reducible apply Rd.alloc)) b)
      clear b
      obtain ⟨g3, c3, rfl, hc3, _⟩ := hu.form
      rw [HN.out] at hc3 hu ⊢
      have HO : Hid (Own w3 w.heap.size (.slice (some ⟨g3, 0, none⟩) n c3) (fill l 0)) := Lib.hid (hu.own.base hz2)
      clear hu
      obtain ⟨q1, q2, q3, _⟩ := HGd.out 0 (by omega)
      go_wp2_with fail
      refine ((l3_free (fill l 0) (some ⟨g3, 0, none⟩) n c3 _ HN.out (by omega) (Own.rd HO.out) q2 q1)).mono ?_
      rintro e w4 ⟨pf, q, cf, rfl, hq, hcf, hrf, b⟩
      have Sw4 := Lib.hid b.size
      have HB := Lib.hid (chain0 (w := w) (by repeat (first | with_reducible exact Below.refl _ _ | with_reducible exact HB.out | with_reducible apply Below.drew | with_reducible apply bdN | with_reducible refine Below.alloc ?_ (by first | exact Nat.le_refl _ | with_reducible exact HB.out.size | omega | (simp; done) | (simp; omega) | (have := HB.out.size; simp at *; omega)) _ | with_reducible refine Below.setCell ?_ (by first | exact Nat.le_refl _ | with_reducible exact HB.out.size | omega | (simp; done) | (simp; omega) | (have := HB.out.size; simp at *; omega)) _)) b)
      have HO := Lib.hid (Own.below (by repeat (first | with_reducible exact HO.out | with_reducible apply Own.drewN | with_reducible apply Own.drew | with_reducible apply Own.alloc)) b)
      clear b
      have HQ := Lib.hid hq
      have HF := Lib.hid hrf
      clear hq hrf q1 q2 q3
      go_wp2_with fail
      go_loopw [4, 5] (fun v f wr => ∃ (k m g ch q cf : Nat) (pf : Option Addr), k ≤ 81 ∧ v = .slice (some ⟨g, 0, none⟩) m ch ∧ f = .slice pf q cf ∧ m ≤ ch ∧ m ≤ 199 ∧ q ≤ cf ∧ Hid ((fill l k).length = m) ∧ Hid ((nums (fre (fill l k)) 81).length = q) ∧ Hid (Own wr w.heap.size (.slice (some ⟨g, 0, none⟩) m ch) (fill l k)) ∧ Hid (Rd wr pf (ints (nums (fre (fill l k)) 81))) ∧ Hid (Below w.heap.size w wr)) (fun v _ _ => 200 - slLen v)
      case atStart => exact ⟨0, n, g3, c3, q, cf, pf, by omega, rfl, rfl, hc3, by omega, hcf, HN, HQ, HO, HF, HB⟩
      case round =>
        clear HO HB HF HQ
        obtain ⟨k, m, g, ch, q, cf, pf, hk, rfl, rfl, hmc, hm2, hqc, HM, HQ, HO, HF, HB⟩ := hrel
        by_cases hlt : 0 < q
        · obtain ⟨bf, of, x, ep, hb, hx, d0⟩ := HF.out.int (k := 0) (by rw [HQ.out]; exact hlt)
          subst ep
          obtain ⟨i, hxi, hi, hnx, hth⟩ := HNx.out k hk x hx
          subst hxi
          rw [Nat.add_zero] at d0
          have m1 : (0 : Int) < (q : Int) := by omega
          have m2 : (0 : Int) ≤ (cf : Int) := by omega
          obtain ⟨q1, q2, q3, _⟩ := HGd.out k hk
          obtain ⟨r1, r2, r3, _⟩ := HGd.out (i + 1) (by omega)
          have hko := cdAt_okN (n := (i : Int)) (by omega) (by omega)
          have hpl := put_len hth
          have HM2 := Lib.hid (show (fill l (i + 1)).length = m + 1 by rw [hnx, hpl, HM.out])
          have hm3 : m + 1 ≤ 199 := by rw [HM2.out, HN.out] at r3; omega
          have HP := Lib.hid (fun w' hr => l2_put (fill l k) (cdAt (i : Int)) g 0 m ch w' HM.out (by omega) hmc hr q2 hko q1)
          rw [← hnx] at HP
          have HL := Lib.hid (fun p c w' hr => l3_free (fill l (i + 1)) p (m + 1) c w' HM2.out (by omega) hr r2 r1)
          clear hx hnx hth q1 q2 q3 r1 r2 r3 hko hpl
          go_wp2_with fail
          refine ((l2_at (i : Int) _ (by omega) (by omega))).mono ?_
          rintro e w4 ⟨rfl, b⟩
          have Sw4 := Lib.hid b.size
          have HB := Lib.hid (chain0 (w := w) (by repeat (first | with_reducible exact Below.refl _ _ | with_reducible exact HB.out | with_reducible apply Below.drew | with_reducible apply bdN | with_reducible refine Below.alloc ?_ (by first | exact Nat.le_refl _ | with_reducible exact HB.out.size | omega | (simp; done) | (simp; omega) | (have := HB.out.size; simp at *; omega)) _ | with_reducible refine Below.setCell ?_ (by first | exact Nat.le_refl _ | with_reducible exact HB.out.size | omega | (simp; done) | (simp; omega) | (have := HB.out.size; simp at *; omega)) _)) b)
          have HO := Lib.hid (Own.below (by repeat (first | with_reducible exact HO.out | with_reducible apply Own.drewN | with_reducible apply Own.drew | with_reducible apply Own.alloc)) b)
          clear b
          have hz4 := HB.out.size
          go_wp2_with fail
          refine ((HP.out _ (Own.rd HO.out))).mono ?_
          rintro e w5 ⟨u, rfl, hu, b⟩
          have Sw5 := Lib.hid b.size
          have HB := Lib.hid (chain0 (w := w) (by repeat (first | with_reducible exact Below.refl _ _ | with_reducible exact HB.out | with_reducible apply Below.drew | with_reducible apply bdN | with_reducible refine Below.alloc ?_ (by first | exact Nat.le_refl _ | with_reducible exact HB.out.size | omega | (simp; done) | (simp; omega) | (have := HB.out.size; simp at *; omega)) _ | with_reducible refine Below.setCell ?_ (by first | exact Nat.le_refl _ | with_reducible exact HB.out.size | omega | (simp; done) | (simp; omega) | (have := HB.out.size; simp at *; omega)) _)) b)
          have HO := Lib.hid (Own.below (by repeat (first | with_reducible exact HO.out | with_reducible apply Own.drewN | with_reducible apply Own.drew | with_reducible apply Own.alloc)) b)
          clear b
          obtain ⟨g5, c5, rfl, hc5, _⟩ := hu.form
          rw [HM2.out] at hc5 hu ⊢
          have HO5 : Hid (Own w5 w.heap.size (.slice (some ⟨g5, 0, none⟩) (m + 1) c5) (fill l (i + 1))) := Lib.hid (hu.own.base hz4)
          clear hu HO
          go_wp2_with fail
          refine ((HL.out _ _ _ (Own.rd HO5.out))).mono ?_
          rintro e w6 ⟨pf6, q6, cf6, rfl, hq6, hcf6, hrf6, b⟩
          have Sw6 := Lib.hid b.size
          have HB := Lib.hid (chain0 (w := w) (by repeat (first | with_reducible exact Below.refl _ _ | with_reducible exact HB.out | with_reducible apply Below.drew | with_reducible apply bdN | with_reducible refine Below.alloc ?_ (by first | exact Nat.le_refl _ | with_reducible exact HB.out.size | omega | (simp; done) | (simp; omega) | (have := HB.out.size; simp at *; omega)) _ | with_reducible refine Below.setCell ?_ (by first | exact Nat.le_refl _ | with_reducible exact HB.out.size | omega | (simp; done) | (simp; omega) | (have := HB.out.size; simp at *; omega)) _)) b)
          have HO5 := Lib.hid (Own.below (by repeat (first | with_reducible exact HO5.out | with_reducible apply Own.drewN | with_reducible apply Own.drew | with_reducible apply Own.alloc)) b)
          clear b
          have HQ6 := Lib.hid hq6
          have HF6 := Lib.hid hrf6
          clear hq6 hrf6
          go_wp2_with fail
          go_roundw
          case rel => exact ⟨i + 1, m + 1, g5, c5, q6, cf6, pf6, by omega, rfl, rfl, hc5, hm3, hcf6, HM2, HQ6, HO5, HF6, HB⟩
          case measure => simp only [slLen]; omega
        · have hq0 : q = 0 := by omega
          subst hq0
          have HLa := Lib.hid (fill_last hk (List.eq_nil_of_length_eq_zero HQ.out))
          go_wp2_with fail
          go_ret2
          exact ⟨_, ret_hb HT2.out.symm, by rw [HT1.out, HLa.out]; exact HO.out, HB.out⟩
end Go.Proofs.Ytghfplmpfgkmeaa.chance

