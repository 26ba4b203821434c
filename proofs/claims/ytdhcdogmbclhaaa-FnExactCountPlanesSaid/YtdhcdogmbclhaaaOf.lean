/- Spans: the model's. -/
import Derived.Test.YtdhcdogmbclhaaaOa
import Derived.Test.YtdhcdogmbclhaaaPu
import Derived.Test.YtdhcdogmbclhaaaHs
import Derived.Test.YtdhcdogmbclhaaaVy
import Derived.Deep.DeepCutAuto
namespace Go.Proofs.Ytdhcdogmbclhaaa.planes
open Go.RowKit
open cards reg
set_option linter.unusedVariables false

theorem allPut_le {l : List Cd} (hok : l.all Cd.ok = true) : (allPut l).length ≤ 81 := sorted_81 (allPut_is hok).1 (allPut_is hok).2.1
theorem take_all {l : List Cd} (hok : l.all Cd.ok = true) (k : Nat) : (l.take k).all Cd.ok = true := take_ok hok k

set_option maxRecDepth 100000 in
set_option maxHeartbeats 4000000 in
theorem l2_sorted (l : List Cd) (p : Option Addr) (n cp : Nat) (w : World) (hn : l.length = n) (hl : n ≤ 1000000000) (hr : Rd w p (flat l)) (hok : l.all Cd.ok = true) :
    Calls Try.prog 74 #[.slice p n cp] w fun e w' => ∃ u, e = .returned u ∧ OwnN w' w.heap.size u (allPut l) ∧ Below w.heap.size w w' := by
  have HN := Lib.hid hn
  have HR0 := Lib.hid hr
  have HK := Lib.hid hok
  clear hn hr hok
  go_enter Try.func74, Try.ntmps74
  go_wp2_with fail
  go_loopw [3, 4] (fun o i wr => ∃ k : Nat, k ≤ n ∧ i = .int .i64 k ∧ Hid (OwnN wr w.heap.size o (allPut (l.take k))) ∧ Hid (Below w.heap.size w wr)) (fun _ i _ => n - (intOf i).toNat)
  case atStart => exact ⟨0, Nat.zero_le _, rfl, Lib.hid (OwnN.empty w w.heap.size (Nat.le_refl _)), Lib.hid (by repeat (first | with_reducible exact Below.refl _ _ | with_reducible exact HB.out | with_reducible apply Below.drew | with_reducible apply bdN | with_reducible refine Below.alloc ?_ (by first | exact Nat.le_refl _ | with_reducible exact HB.out.size | omega | (simp; done) | (simp; omega) | (have := HB.out.size; simp at *; omega)) _ | with_reducible refine Below.setCell ?_ (by first | exact Nat.le_refl _ | with_reducible exact HB.out.size | omega | (simp; done) | (simp; omega) | (have := HB.out.size; simp at *; omega)) _))⟩
  case round =>
    obtain ⟨k, hk, rfl, HO, HB⟩ := hrel
    by_cases hlt : k < n
    · have HR := Lib.hid (HR0.out.below HB.out)
      obtain ⟨b, o, x, rfl, hb, hx, c0, c1, c2, c3⟩ := HR.out.card (k := k) (by rw [HN.out]; exact hlt)
      have HX := Lib.hid (ok_at HK.out hx)
      have HE := Lib.hid (allPut_snoc hx)
      have m0 : (0 : Int) ≤ (k : Int) := by omega
      have m1 : (k : Int) < (n : Int) := by omega
      have HTk := Lib.hid (take_all HK.out k)
      have HI := Lib.hid (allPut_is HTk.out)
      have HL := Lib.hid (allPut_le HTk.out)
      obtain ⟨g, c, rfl, hc, hr⟩ := HO.out.form
      have HRo := Lib.hid hr
      clear hx hr
      go_wp2_with fail
      refine (l2_put (allPut (l.take k)) x g 0 _ c _ rfl (by have := HL.out; omega) hc HRo.out HI.out.2.1 HX.out HI.out.1).mono ?_
      rintro e w2 ⟨u, rfl, hu, b⟩
      have HZ := Lib.hid HB.out.size
      have Sw2 := Lib.hid b.size
      have HB := Lib.hid (chain0 (w := w) (by repeat (first | with_reducible exact Below.refl _ _ | with_reducible exact HB.out | with_reducible apply Below.drew | with_reducible apply bdN | with_reducible refine Below.alloc ?_ (by first | exact Nat.le_refl _ | with_reducible exact HB.out.size | omega | (simp; done) | (simp; omega) | (have := HB.out.size; simp at *; omega)) _ | with_reducible refine Below.setCell ?_ (by first | exact Nat.le_refl _ | with_reducible exact HB.out.size | omega | (simp; done) | (simp; omega) | (have := HB.out.size; simp at *; omega)) _)) b)
      clear b
      have HU := Lib.hid (hu.base HZ.out)
      clear hu
      rw [← HE.out] at HU
      go_wp2_with fail
      go_roundw
      case rel => exact ⟨k + 1, by omega, by go_num, HU, HB⟩
      case measure => simp [intOf]; omega
    · obtain rfl : k = n := by omega
      have HE := Lib.hid (show l.take k = l by rw [← HN.out, List.take_length])
      go_wp2_with fail
      go_ret
      exact ⟨_, rfl, by rw [HE.out] at HO; exact HO.out, HB.out⟩


def lenOf : Value → Nat
  | .slice _ n _ => n
  | _ => 0

set_option maxRecDepth 100000 in
set_option maxHeartbeats 8000000 in
theorem l6_span (l : List Cd) (p : Option Addr) (n cp : Nat) (w : World) (hn : l.length = n) (hl : n ≤ 1000000000) (hr : Rd w p (flat l)) (hok : l.all Cd.ok = true) :
    Calls Try.prog 49 #[.slice p n cp] w fun e w' => ∃ u, e = .returned u ∧ OwnN w' w.heap.size u (span l) ∧ Below w.heap.size w w' := by
  have HK := Lib.hid hok
  have HS := Lib.hid (fun w hr => l2_sorted l p n cp w hn hl hr hok)
  have HR := Lib.hid hr
  clear hn hr hok
  go_enter Try.func49, Try.ntmps49
  go_wp2_with fail
  refine (HS.out _ HR.out).mono ?_
  rintro e w1 ⟨u, rfl, hu, b⟩
  have HB := Lib.hid b
  have HO := Lib.hid hu
  clear b hu HR HS
  go_wp2_with fail
  go_loopw [3, 4] (fun o iv wr => ∃ (m : List Cd) (i : Nat), i ≤ m.length ∧ iv = .int .i64 i ∧ Hid (OwnN wr w.heap.size o m) ∧ Hid (SpI l m i 0) ∧ Hid (Below w.heap.size w wr)) (fun o iv _ => (81 - lenOf o) * 100 + (82 - (intOf iv).toNat))
  case atStart => exact ⟨allPut l, 0, Nat.zero_le _, rfl, HO, Lib.hid (SpI.start HK.out), HB⟩
  case round =>
    clear HB HO
    obtain ⟨m, i, hi, rfl, HO, HI, HB⟩ := hrel
    obtain ⟨W0, rfl⟩ : ∃ W0 : World, W0 = wr := ⟨_, rfl⟩
    have hle := HI.out.le
    obtain ⟨g, c, rfl, hc, hrm⟩ := HO.out.form
    obtain ⟨q, hq⟩ : ∃ q, m.length = q := ⟨_, rfl⟩
    have HQ := Lib.hid hq
    rw [hq] at hi hle hc HO ⊢
    clear hrm hq
    by_cases hlt : i < q
    · have m0 : (0 : Int) ≤ (i : Int) := by omega
      have m1 : (i : Int) < (q : Int) := by omega
      go_wp2_with fail
      go_loopw [3, 4, 5] (fun o iv kv wq => ∃ (m' : List Cd) (i' k' : Nat), k' ≤ i' ∧ i' < m'.length ∧ iv = .int .i64 i' ∧ kv = .int .i64 k' ∧ Hid (OwnN wq w.heap.size o m') ∧ Hid (SpI l m' i' k') ∧ Hid (Below w.heap.size w wq) ∧ ((m'.length = q ∧ i' = i) ∨ q < m'.length)) (fun o iv kv _ => (81 - lenOf o) * 100 + ((intOf iv).toNat - (intOf kv).toNat))
      case atStart => exact ⟨m, i, 0, Nat.zero_le _, by rw [HQ.out]; exact hlt, rfl, rfl, HO, HI, HB, .inl ⟨HQ.out, rfl⟩⟩
      case round =>
        clear HB HI HO
        obtain ⟨m', i', k', hk, hi', rfl, rfl, HO, HI, HB, hor⟩ := hrel
        have hle' := HI.out.le
        obtain ⟨g', c', rfl, hc', hrm⟩ := HO.out.form
        have HRm := Lib.hid hrm
        obtain ⟨q', hq'⟩ : ∃ q', m'.length = q' := ⟨_, rfl⟩
        have HQ' := Lib.hid hq'
        rw [hq'] at hi' hle' hc' HO hor ⊢
        clear hrm hq'
        have n0 : (0 : Int) ≤ (k' : Int) := by omega
        by_cases hkt : k' < i'
        · have n1 : (k' : Int) < (i' : Int) := by omega
          obtain ⟨b1, o1, x, e1, hb1, hx, c0, c1, c2, c3⟩ := HRm.out.card (k := i') (by rw [HQ'.out]; exact hi')
          obtain ⟨b2, o2, y, e2, hb2, hy, d0, d1, d2, d3⟩ := HRm.out.card (k := k') (by rw [HQ'.out]; omega)
          injection e1 with e1; injection e1 with e1a e1b
          injection e2 with e2; injection e2 with e2a e2b
          subst e1a; subst e1b; subst e2a; subst e2b
          have HXi := Lib.hid hx
          have HYi := Lib.hid hy
          have HX := Lib.hid (ok_at HI.out.ok hx)
          have HY := Lib.hid (ok_at HI.out.ok hy)
          clear hx hy
          go_upto_region 8 with fail
          refine region_vb 33 #[.int .i64 0, .int .i64 0, .int .i64 0, .int .i64 0] [(true, 0), (true, 1), (true, 2), (true, 3), (true, 4), (true, 5), (true, 6), (true, 7), (false, 8)] 9 10 6 [] _ _ 28 (by kernel_rfl) (fun w => by kernel_rfl) (by kernel_rfl) rfl rfl (by kernel_rfl) rfl rfl rfl rfl rfl rfl rfl rfl (by decide) (of_decide_eq_true rfl) ?_
          refine chain_pure 20 (v := .slice (some ⟨g', 0, none⟩) q' c') rfl rfl rfl (fun w => by kernel_rfl) ?_
          refine chain_pure 21 (v := .int .i64 i') rfl rfl rfl (fun w => by kernel_rfl) ?_
          refine chain_pure 22 (v := .pointer (some ⟨g', 0 + i' * 4, none⟩)) rfl rfl rfl (exec_indexS (cp := c') hi' rfl (by kernel_rfl) (by kernel_rfl)) ?_
          refine chain_card 23 rfl rfl rfl _ rfl (by kernel_rfl) x (fun w' h => ⟨(Below.cell h (p := ⟨g', _, none⟩) hb1).trans c0, (Below.cell h (p := ⟨g', _, none⟩) hb1).trans c1, (Below.cell h (p := ⟨g', _, none⟩) hb1).trans c2, (Below.cell h (p := ⟨g', _, none⟩) hb1).trans c3⟩) ?_
          refine chain_pure 24 (v := .slice (some ⟨g', 0, none⟩) q' c') rfl rfl rfl (fun w => by kernel_rfl) ?_
          refine chain_pure 25 (v := .int .i64 k') rfl rfl rfl (fun w => by kernel_rfl) ?_
          refine chain_pure 26 (v := .pointer (some ⟨g', 0 + k' * 4, none⟩)) rfl rfl rfl (exec_indexS (n := q') (cp := c') (by omega) rfl (by kernel_rfl) (by kernel_rfl)) ?_
          refine chain_card 27 rfl rfl rfl _ rfl (by kernel_rfl) y (fun w' h => ⟨(Below.cell h (p := ⟨g', _, none⟩) hb1).trans d0, (Below.cell h (p := ⟨g', _, none⟩) hb1).trans d1, (Below.cell h (p := ⟨g', _, none⟩) hb1).trans d2, (Below.cell h (p := ⟨g', _, none⟩) hb1).trans d3⟩) ?_
          refine chain_call 28 rfl rfl rfl (fun w => by kernel_rfl) (fun w0 h0 => l2_third x y w0 HX.out HY.out) ?_
          intro wz g1 hI hg hb
          refine ⟨by kernel_rfl, #[.int .i64 (third x y).a, .int .i64 (third x y).b, .int .i64 (third x y).c, .int .i64 (third x y).d], by kernel_rfl, rfl, by simp [Value.oneCell'], ?_⟩
          intro w5 R1 b5
          refine ⟨_, rfl, ?_⟩
          simp only [Act.put, List.setIfInBounds_toArray, List.set_cons_zero, List.set_cons_succ]
          have HB5 := Lib.hid (chain0 HB.out b5)
          have HO5 := Lib.hid (HO.out.below b5)
          have HR5 := Lib.hid (HRm.out.below b5)
          clear b5 hI hg hb c0 c1 c2 c3 d0 d1 d2 d3 HRm HB HO
          unfold ptr
          obtain ⟨t, ht⟩ : ∃ t, third x y = t := ⟨_, rfl⟩
          have HTk := Lib.hid (third_ok x y)
          have HTt := Lib.hid ht
          have KT : Hid (Box w5 g1 t) := Lib.hid (by rw [← HTt.out]; exact R1.out)
          rw [ht] at HTk
          clear R1 ht
          obtain ⟨kta, ktb, ktc, ktd⟩ := KT.out.cell
          have ktz := KT.out.lt
          have HAs := Lib.hid (fun w hr => l2_has m' t (some ⟨g', 0, none⟩) q' c' w HQ'.out (by omega) hr HI.out.ok HTk.out HI.out.srt)
          cases hth : there m' t
          · have HP := Lib.hid (fun w hr => l2_put m' t g' 0 q' c' w HQ'.out (by omega) hc' hr HI.out.ok HTk.out HI.out.srt)
            have HI2 := Lib.hid (HI.out.more HXi.out HYi.out)
            rw [HTt.out] at HI2
            have HL2 := Lib.hid (show (put m' t).length = q' + 1 by rw [put_len hth, HQ'.out])
            rw [hth] at HAs
            have HB := HB5
            have HR := HR5
            have HZ := Lib.hid HB5.out.size
            clear hth HB5 HR5 HO5
            go_wp2_with fail
            refine ((HAs.out _ HR.out)).mono ?_
            rintro e w6 ⟨rfl, b⟩
            have Sw6 := Lib.hid b.size
            have HB := Lib.hid (chain0 (w := w) (by repeat (first | with_reducible exact Below.refl _ _ | with_reducible exact HB.out | with_reducible apply Below.drew | with_reducible apply bdN | with_reducible refine Below.alloc ?_ (by first | exact Nat.le_refl _ | with_reducible exact HB.out.size | omega | (simp; done) | (simp; omega) | (have := HB.out.size; simp at *; omega)) _ | with_reducible refine Below.setCell ?_ (by first | exact Nat.le_refl _ | with_reducible exact HB.out.size | omega | (simp; done) | (simp; omega) | (have := HB.out.size; simp at *; omega)) _)) b)
            have HR := Lib.hid (Rd.below (by repeat (first | with_reducible exact HR.out | with_reducible apply Rd.drewN | with_reducible apply Rd.drew | with_reducible apply Rd.alloc)) b)
            have KT : Hid (Box _ (g1) (t)) := Lib.hid (Box.below (by repeat (first | with_reducible exact KT.out | with_reducible apply Box.drewN | with_reducible apply Box.drew | (with_reducible refine Box.newAt ?_ ?_ <;> first | (simp; done) | rfl) | with_reducible apply Box.alloc)) b)
            try clear kta ktb ktc ktd ktz
            have ktz := KT.out.lt
            obtain ⟨kta, ktb, ktc, ktd⟩ := KT.out.cell
            clear b
            have HZ := Lib.hid HB.out.size
            go_wp2_with fail
            refine (HP.out _ HR.out).mono ?_
            rintro e w7 ⟨u7, rfl, hu, b⟩
            have HU := Lib.hid (hu.base HZ.out)
            have HB := Lib.hid (chain0 HB.out b)
            clear b hu
            obtain ⟨g7, c7, rfl, hc7, _⟩ := HU.out.form
            rw [HL2.out] at HU hc7 ⊢
            have hle7 : q' + 1 ≤ 81 := by have := HI2.out.le; rw [HL2.out] at this; exact this
            go_wp2_with fail
            go_roundw
            case rel => exact ⟨put m' t, 0, 0, Nat.le_refl _, by rw [HL2.out]; omega, rfl, by go_num, HU, HI2, HB, .inr (by rw [HL2.out]; omega)⟩
            case measure => simp [intOf, lenOf]; omega
          · have HI2 := Lib.hid (HI.out.keep HXi.out HYi.out (by rw [HTt.out]; exact hth))
            rw [hth] at HAs
            have HB := HB5
            have HR := HR5
            have HO := HO5
            clear hth HB5 HR5 HO5
            go_wp2_with fail
            refine ((HAs.out _ HR.out)).mono ?_
            rintro e w6 ⟨rfl, b⟩
            have Sw6 := Lib.hid b.size
            have HB := Lib.hid (chain0 (w := w) (by repeat (first | with_reducible exact Below.refl _ _ | with_reducible exact HB.out | with_reducible apply Below.drew | with_reducible apply bdN | with_reducible refine Below.alloc ?_ (by first | exact Nat.le_refl _ | with_reducible exact HB.out.size | omega | (simp; done) | (simp; omega) | (have := HB.out.size; simp at *; omega)) _ | with_reducible refine Below.setCell ?_ (by first | exact Nat.le_refl _ | with_reducible exact HB.out.size | omega | (simp; done) | (simp; omega) | (have := HB.out.size; simp at *; omega)) _)) b)
            have HR := Lib.hid (Rd.below (by repeat (first | with_reducible exact HR.out | with_reducible apply Rd.drewN | with_reducible apply Rd.drew | with_reducible apply Rd.alloc)) b)
            have HO := Lib.hid (OwnN.below (by repeat (first | with_reducible exact HO.out | with_reducible apply OwnN.drewN | with_reducible apply OwnN.drew | with_reducible apply OwnN.alloc)) b)
            have KT : Hid (Box _ (g1) (t)) := Lib.hid (Box.below (by repeat (first | with_reducible exact KT.out | with_reducible apply Box.drewN | with_reducible apply Box.drew | (with_reducible refine Box.newAt ?_ ?_ <;> first | (simp; done) | rfl) | with_reducible apply Box.alloc)) b)
            try clear kta ktb ktc ktd ktz
            have ktz := KT.out.lt
            obtain ⟨kta, ktb, ktc, ktd⟩ := KT.out.cell
            clear b
            go_wp2_with fail
            go_roundw
            case rel => exact ⟨m', i', k' + 1, by omega, by rw [HQ'.out]; exact hi', rfl, by go_num, HO, HI2, HB, by rw [HQ'.out]; exact hor⟩
            case measure => simp [intOf, lenOf]; omega
        · obtain rfl : k' = i' := by omega
          have HI2 := Lib.hid HI.out.next
          go_wp2_with fail
          go_roundw
          case rel => exact ⟨m', k' + 1, by rw [HQ'.out]; omega, by go_num, HO, HI2, HB⟩
          case measure => simp [intOf, lenOf]; omega
    · obtain rfl : i = q := by omega
      have HE := Lib.hid (HI.out.done HK.out (by rw [HQ.out]; exact Nat.le_refl _))
      rw [HE.out] at HO
      go_wp2_with fail
      go_ret
      exact ⟨_, rfl, HO.out, HB.out⟩
end Go.Proofs.Ytdhcdogmbclhaaa.planes
