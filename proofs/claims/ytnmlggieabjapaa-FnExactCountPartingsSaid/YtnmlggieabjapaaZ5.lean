/- Pickings counted: the model's search. -/
import Derived.Test.YtnmlggieabjapaaZ4
namespace Go.Proofs.Ytnmlggieabjapaa.parting
open Go.RowKit
open cards maps
set_option linter.unusedVariables false

theorem ct_yes {x : A3} {r ps : List A3} {n : Nat} (h : free ps x = true) (hn : 1 ≤ n) : ct (x :: r) ps n = ct0 r (ps ++ [x]) (n - 1) + ct r ps n := by
  rw [ct, if_pos h]
  congr 1
  unfold ct0
  by_cases h1 : n = 1
  · rw [if_pos h1, if_pos (by omega)]
  · rw [if_neg h1, if_neg (by omega)]
theorem ct_no {x : A3} {r ps : List A3} {n : Nat} (h : free ps x = false) : ct (x :: r) ps n = ct r ps n := by
  rw [ct, if_neg (by simp [h]), Nat.zero_add]
theorem ct0_bd (r ps : List A3) (n : Nat) (h : r.length ≤ 35) : ct0 r ps n ≤ 34359738368 := by
  have h1 := ct_two r ps n
  have h2 : 2 ^ r.length ≤ 2 ^ 35 := Nat.pow_le_pow_right (by omega) h
  unfold ct0
  split
  · omega
  · omega
theorem ct_bd (r ps : List A3) (n : Nat) (h : r.length ≤ 35) : ct r ps n ≤ 34359738368 := by
  have h1 := ct_two r ps n
  have h2 : 2 ^ r.length ≤ 2 ^ 35 := Nat.pow_le_pow_right (by omega) h
  omega

set_option maxRecDepth 100000 in
set_option maxHeartbeats 8000000 in
theorem l7_count (A : List A3) (pa : Option Addr) (m ca : Nat) (hm : A.length = m) (hl : m ≤ 35) :
    ∀ (d k : Nat) (K : Int) (ps : List A3) (g n c r : Nat) (R : Int) (w : World), K = (k : Int) → R = (r : Int) → r ≤ 100000 → m = k + d → ps.length = n → n + d ≤ 100000 → Rd w pa (A3.flat A) → Rd w (some ⟨g, 0, none⟩) (A3.flat ps) →
      Calls Try.prog 74 #[.slice pa m ca, .slice (some ⟨g, 0, none⟩) n c, .int .i64 K, .int .i64 R] w fun e w' => e = .returned (.int .i64 (ct0 (A.drop k) ps r : Nat)) ∧ Below w.heap.size w w' := by
  have HM := Lib.hid hm
  clear hm
  intro d
  induction d using Nat.strongRecOn with
  | ind d ih =>
  intro k K ps g n c r R w hK hRr hr15 hd hn hnd hA hO
  have IH := Lib.hid ih
  have HN := Lib.hid hn
  have HA0 := Lib.hid hA
  have HO0 := Lib.hid hO
  have HNK := Lib.hid hd
  have hkm : k ≤ m := by omega
  subst hK
  cases r with
  | zero =>
    obtain rfl : R = 0 := by simpa using hRr
    clear hRr hr15 ih hn hA hO hd
    go_enter Try.func74, Try.ntmps74
    go_wp2_with fail
    go_ret
    exact ⟨rfl, Below.refl _ _⟩
  | succ r =>
  have hbd := ct_bd (A.drop k) ps (r + 1) (by rw [List.length_drop, HM.out]; omega)
  obtain ⟨t, htg⟩ : ∃ t, ct0 (A.drop k) ps (r + 1) = t := ⟨_, rfl⟩
  have HT : Hid (ct (A.drop k) ps (r + 1) = t) := Lib.hid (by rw [← htg]; unfold ct0; rw [if_neg (by omega)])
  rw [HT.out] at hbd
  rw [htg]
  have r1 : 1 ≤ R := by omega
  have r2 : R ≤ 100000 := by omega
  have hrb : (R == 0) = false := beq_eq_false_iff_ne.2 (by omega)
  have HRr := Lib.hid hRr
  have t1 : t ≤ 34359738368 := hbd
  clear ih hn hA hO hd htg hRr hbd
  go_enter Try.func74, Try.ntmps74
  go_wp2_with fail
  go_loopw [9, 10] (fun u i wr => ∃ (j s : Nat), k ≤ j ∧ j ≤ m ∧ i = .int .i64 j ∧ u = .int .i64 s ∧ Hid (s + ct (A.drop j) ps (r + 1) = t) ∧ Hid (Below w.heap.size w wr)) (fun _ i _ => m - (intOf i).toNat)
  case atStart => exact ⟨k, 0, Nat.le_refl _, hkm, rfl, rfl, Lib.hid (by rw [HT.out]; omega), Lib.hid (Below.refl _ _)⟩
  case round =>
    obtain ⟨j, s, hkj, hjm, rfl, rfl, HTg, HB⟩ := hrel
    have HA := Lib.hid (HA0.out.below HB.out)
    have HV := Lib.hid (HO0.out.below HB.out)
    by_cases hlt : j < m
    · obtain ⟨bb, o, y, rfl, hbb, hy, c0, c1, c2⟩ := HA.out.aA3 (k := j) (by rw [HM.out]; exact hlt)
      have m0 : (0 : Int) ≤ (j : Int) := by omega
      have m1 : (j : Int) < (m : Int) := by omega
      have hdp : A.drop j = y :: A.drop (j + 1) := by
        obtain ⟨hk', e⟩ := List.getElem?_eq_some_iff.1 hy
        rw [← e]
        exact List.drop_eq_getElem_cons hk'
      rw [hdp] at HTg
      have HP := fun w' (hw : Rd w' (some ⟨g, 0, none⟩) (A3.flat ps)) => l7_free ps y (some ⟨g, 0, none⟩) n c w' HN.out (by omega) hw
      obtain ⟨fr, hfr⟩ : ∃ fr, free ps y = fr := ⟨_, rfl⟩
      rw [hfr] at HP
      have HFr := Lib.hid hfr
      replace HP := Lib.hid HP
      clear hy hdp hfr
      go_wp2_with fail
      refine (HP.out _ HV.out).mono ?_
      rintro e w2 ⟨rfl, b2⟩
      have d0 := (b2.cell (p := ⟨bb, _, none⟩) hbb).trans c0
      have d1 := (b2.cell (p := ⟨bb, _, none⟩) hbb).trans c1
      have d2 := (b2.cell (p := ⟨bb, _, none⟩) hbb).trans c2
      have HBB : Hid (bb < w2.heap.size) := Lib.hid (Nat.lt_of_lt_of_le hbb b2.size)
      have HA2 := Lib.hid (HA.out.below b2)
      have HVr := Lib.hid (HV.out.below b2)
      have HB2 : Hid (Below w.heap.size w w2) := Lib.hid (chain0 HB.out b2)
      clear b2 c0 c1 c2 hbb HA HV HB
      cases fr
      · rw [ct_no HFr.out] at HTg
        go_wp2_with fail
        go_roundw
        case rel => exact ⟨j + 1, s, by omega, by omega, by go_num, rfl, HTg, HB2⟩
        case measure => simp [intOf]; omega
      · rw [ct_yes HFr.out (by omega), Nat.add_sub_cancel] at HTg
        obtain ⟨d', hd'⟩ : ∃ d', m = (j + 1) + d' := ⟨m - (j + 1), by omega⟩
        have hdd : d' < d := by have := HNK.out; omega
        have HHd := Lib.hid hd'
        have hnx : n + 1 + d' ≤ 100000 := by have := HNK.out; omega
        have hlx : (ps ++ [y]).length = n + 1 := by rw [List.length_append, HN.out]; rfl
        have HLx := Lib.hid hlx
        have HD0 := Lib.hid d0
        have HD1 := Lib.hid d1
        have HD2 := Lib.hid d2
        have hwr : IntKind.i64.wrap ((j : Int) + 1) = (j : Int) + 1 := IntWalk.i64_in _ (by omega)
        have hwr2 : IntKind.i64.wrap (R - 1) = R - 1 := IntWalk.i64_in _ (by omega)
        have HI := fun (g' c' : Nat) (w' : World) => IH.out d' hdd (j + 1) ((j : Int) + 1) (ps ++ [y]) g' (n + 1) c' r (R - 1) w' (by simp) (by have := HRr.out; omega) (by omega) (by have := HHd.out; omega) HLx.out hnx
        obtain ⟨z, hz⟩ : ∃ z, ct0 (A.drop (j + 1)) (ps ++ [y]) r = z := ⟨_, rfl⟩
        rw [hz] at HI HTg
        have hsz : s + z ≤ 34359738368 := by have := HTg.out; omega
        have HTg2 : Hid (s + z + ct (A.drop (j + 1)) ps (r + 1) = t) := Lib.hid (by have := HTg.out; omega)
        have hwr3 : IntKind.i64.wrap ((s : Int) + (z : Int)) = (s : Int) + (z : Int) := IntWalk.i64_in _ (by omega)
        replace HI := Lib.hid HI
        clear hd' hlx hz
        go_wp2_with fail
        go_region_held3 (fun w' => w'.cell? ⟨bb, o + j * 3, none⟩ = some (.int .i64 y.a) ∧ w'.cell? ⟨bb, o + j * 3 + 1, none⟩ = some (.int .i64 y.b) ∧ w'.cell? ⟨bb, o + j * 3 + 2, none⟩ = some (.int .i64 y.c)) (first | exact ⟨d0, d1, d2⟩ | go_keep) (first
          | (refine step_appends3 rfl (.tmp 28) (.tmp 29) rfl w2.heap.size (.slice (some ⟨_, 0, none⟩) 0 0) [] ps g 0 n c rfl rfl ?_ HN.out (by repeat (first | with_reducible exact HVr.out | with_reducible apply Rd.drewN | with_reducible apply Rd.drew | with_reducible apply Rd.alloc)) (by simp; omega) (by first | (simp; done) | (simp; omega)) ?_
             · repeat (first | exact OwnA3.emptyAt (by simp) (by simp) | with_reducible apply OwnA3.drew | with_reducible apply OwnA3.alloc)
             intro v5 w5 ho5 hb5 hg5
             have HO5 : Hid (OwnA3 w5 w2.heap.size v5 ps) := Lib.hid ho5
             have HB5 : Hid (Below w2.heap.size w2 w5) := Lib.hid (Below.trans (by repeat (first | exact Below.refl _ _ | with_reducible apply Below.drew | with_reducible refine Below.alloc ?_ (by first | exact Nat.le_refl _ | (simp; done) | (simp; omega)) _)) hb5)
             (first
               | (have K33 := Lib.hid (box_26_33 hg5))
               | (have K33 := Lib.hid (box_33_26 hg5))
               | skip)
             have d0 := (HB5.out.cell (p := ⟨bb, _, none⟩) HBB.out).trans HD0.out
             have d1 := (HB5.out.cell (p := ⟨bb, _, none⟩) HBB.out).trans HD1.out
             have d2 := (HB5.out.cell (p := ⟨bb, _, none⟩) HBB.out).trans HD2.out
             clear ho5 hb5 hg5)
          | (refine step_appends3 rfl (.tmp 30) (.tmp 35) rfl w2.heap.size v5 ps [y] w5.heap.size 0 1 1 rfl rfl ?_ rfl ?_ (by have := HN.out; simp; omega) ?_ ?_
             · repeat (first | with_reducible exact HO5.out | with_reducible apply OwnA3.drew | with_reducible apply OwnA3.alloc)
             · refine TBox.rd3 ?_
               (repeat (first | exact TBox.newAt rfl rfl | with_reducible apply TBox.drew)); done
             · first | exact HB5.out.size | (have := HB5.out.size; simp; omega)
             intro v6 w6 ho6 hb6 hg6
             have HB6 : Hid (Below w2.heap.size w2 w6) := Lib.hid (Below.trans (by repeat (first | with_reducible exact HB5.out | with_reducible apply Below.drew | with_reducible refine Below.alloc ?_ (by have := HB5.out.size; simp; omega) _)) hb6)
             obtain ⟨p6, c6, rfl, hc6, _, hp6⟩ := ho6.form
             rw [HLx.out] at ho6 hc6 hp6 ⊢
             obtain ⟨g6, rfl, _⟩ := hp6 (by omega)
             have HO6 := Lib.hid ho6
             have d0 := (HB6.out.cell (p := ⟨bb, _, none⟩) HBB.out).trans HD0.out
             have d1 := (HB6.out.cell (p := ⟨bb, _, none⟩) HBB.out).trans HD1.out
             have d2 := (HB6.out.cell (p := ⟨bb, _, none⟩) HBB.out).trans HD2.out
             clear ho6 hb6 hg6 hc6 hp6)
          | (refine step_appends3 rfl (.tmp 30) (.tmp 35) rfl w2.heap.size v5 ps [y] w2.heap.size 0 1 1 rfl rfl ?_ rfl ?_ (by have := HN.out; simp; omega) ?_ ?_
             · repeat (first | with_reducible exact HO5.out | with_reducible apply OwnA3.drew | with_reducible apply OwnA3.alloc)
             · refine TBox.rd3 ?_
               (repeat (first | with_reducible exact K33.out | with_reducible apply TBox.drew)); done
             · first | exact HB5.out.size | (have := HB5.out.size; simp; omega)
             intro v6 w6 ho6 hb6 hg6
             have HB6 : Hid (Below w2.heap.size w2 w6) := Lib.hid (Below.trans (by repeat (first | with_reducible exact HB5.out | with_reducible apply Below.drew | with_reducible refine Below.alloc ?_ (by have := HB5.out.size; simp; omega) _)) hb6)
             obtain ⟨p6, c6, rfl, hc6, _, hp6⟩ := ho6.form
             rw [HLx.out] at ho6 hc6 hp6 ⊢
             obtain ⟨g6, rfl, _⟩ := hp6 (by omega)
             have HO6 := Lib.hid ho6
             have d0 := (HB6.out.cell (p := ⟨bb, _, none⟩) HBB.out).trans HD0.out
             have d1 := (HB6.out.cell (p := ⟨bb, _, none⟩) HBB.out).trans HD1.out
             have d2 := (HB6.out.cell (p := ⟨bb, _, none⟩) HBB.out).trans HD2.out
             clear ho6 hb6 hg6 hc6 hp6)
          | (refine step_appends3 rfl (.tmp 30) (.tmp 35) rfl w2.heap.size v5 ps [y] (w2.heap.size + 1) 0 1 1 rfl rfl ?_ rfl ?_ (by have := HN.out; simp; omega) ?_ ?_
             · repeat (first | with_reducible exact HO5.out | with_reducible apply OwnA3.drew | with_reducible apply OwnA3.alloc)
             · refine TBox.rd3 ?_
               (repeat (first | with_reducible exact K33.out | with_reducible apply TBox.drew)); done
             · first | exact HB5.out.size | (have := HB5.out.size; simp; omega)
             intro v6 w6 ho6 hb6 hg6
             have HB6 : Hid (Below w2.heap.size w2 w6) := Lib.hid (Below.trans (by repeat (first | with_reducible exact HB5.out | with_reducible apply Below.drew | with_reducible refine Below.alloc ?_ (by have := HB5.out.size; simp; omega) _)) hb6)
             obtain ⟨p6, c6, rfl, hc6, _, hp6⟩ := ho6.form
             rw [HLx.out] at ho6 hc6 hp6 ⊢
             obtain ⟨g6, rfl, _⟩ := hp6 (by omega)
             have HO6 := Lib.hid ho6
             have d0 := (HB6.out.cell (p := ⟨bb, _, none⟩) HBB.out).trans HD0.out
             have d1 := (HB6.out.cell (p := ⟨bb, _, none⟩) HBB.out).trans HD1.out
             have d2 := (HB6.out.cell (p := ⟨bb, _, none⟩) HBB.out).trans HD2.out
             clear ho6 hb6 hg6 hc6 hp6)
          | (go_at_call 74; refine (HI.out g6 c6 _ ?_ ?_).mono ?_
             · repeat (first | with_reducible exact Rd.below HA2.out (HB6.out) | with_reducible apply Rd.drewN | with_reducible apply Rd.drew)
             · repeat (first | with_reducible exact HO6.out.rd | with_reducible apply Rd.drewN | with_reducible apply Rd.drew)
             rintro e w7 ⟨rfl, b7⟩
             have HB7 : Hid (Below w2.heap.size w2 w7) := Lib.hid (Below.trans HB6.out (b7.mono HB6.out.size))
             have d0 := (HB7.out.cell (p := ⟨bb, _, none⟩) HBB.out).trans HD0.out
             have d1 := (HB7.out.cell (p := ⟨bb, _, none⟩) HBB.out).trans HD1.out
             have d2 := (HB7.out.cell (p := ⟨bb, _, none⟩) HBB.out).trans HD2.out
             clear b7))
        all_goals
          have HB8 : Hid (Below w.heap.size w w7) := Lib.hid (chain0 HB2.out HB7.out)
          clear d0 d1 d2 hwr hwr2 hwr3
          go_wp2_with fail
          go_roundw
          case rel => exact ⟨j + 1, s + z, by omega, by omega, by go_num, by go_num, HTg2, HB8⟩
          case measure => simp [intOf]; omega
    · obtain rfl : j = m := by omega
      have HTb := Lib.hid (show s = t by
        have h := HTg.out
        rw [List.drop_of_length_le (by rw [HM.out]; exact Nat.le_refl _)] at h
        simpa [ct] using h)
      go_wp2_with fail
      go_ret
      exact ⟨ret_int (by rw [HTb.out]), HB.out⟩
end Go.Proofs.Ytnmlggieabjapaa.parting
