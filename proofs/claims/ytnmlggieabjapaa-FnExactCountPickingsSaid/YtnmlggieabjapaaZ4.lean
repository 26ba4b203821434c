/- The first greatest picking: the model's search. -/
import Derived.Test.YtnmlggieabjapaaZd
import Derived.Test.YtnmlggieabjapaaZx
import Derived.Deep.RegionHeld3
import Derived.IntWalk
namespace Go.Proofs.Ytnmlggieabjapaa.parting
open Go.RowKit
open cards maps
set_option linter.unusedVariables false

theorem OwnA3.emptyAt {w : World} {g B : Nat} (h : w.heap.size = g) (hB : B ≤ g) : OwnA3 (w.alloc (.cells #[] 56)) B (.slice (some ⟨g, 0, none⟩) 0 0) [] := by subst h; exact OwnA3.empty w B hB
theorem TBox.past {w w1 : World} {g : Nat} {x : A3} {row : Option Nat} (h : TBox w g x) (hg : w.grownBy w1 row) (ha : row ≠ some g) : TBox w1 g x := (hg.block g h.lt (Ne.symm ha)).trans h
theorem TBox.rd3 {w : World} {g : Nat} {x : A3} (h : TBox w g x) : Rd w (some ⟨g, 0, none⟩) (A3.flat [x]) := Rd.of_block h (by simp [A3.flat, A3.cells])
theorem box_26_33 {w2 w5 : World} {y : A3} (hg : ((w2.alloc (.cells #[] 56)).alloc (A3.obj y)).drew.grownBy w5 (Value.slice (some ⟨w2.heap.size, 0, none⟩) 0 0).ownBlock) : TBox w5 (w2.heap.size + 1) y :=
  TBox.past (TBox.drew (TBox.newAt (by simp) rfl)) hg (by simp [Value.ownBlock])
theorem box_33_26 {w2 w5 : World} {y : A3} (hg : ((w2.alloc (A3.obj y)).alloc (.cells #[] 56)).drew.grownBy w5 (Value.slice (some ⟨w2.heap.size + 1, 0, none⟩) 0 0).ownBlock) : TBox w5 w2.heap.size y :=
  TBox.past (TBox.drew (TBox.alloc (TBox.newAt rfl rfl) _)) hg (by simp [Value.ownBlock])
theorem A3.flat_one : ∀ (l : List A3), ∀ u ∈ A3.flat l, u.oneCell' = true := fun l u h => by
  obtain ⟨x, _, hx⟩ := List.mem_flatMap.1 h
  simp [A3.cells] at hx
  rcases hx with rfl | rfl | rfl <;> rfl
set_option maxRecDepth 100000 in
/-- All of another slice is appended, at an operation of a region. -/
theorem step_appends3 {ops : Array Oper} {o : Oper} {a : Act} {W : World} {K : Act → World → Prop} {Q : Exit → Act → World → Prop} {E : Prop} (hg : o.guard = none) (s x : Operand)
    (hop : o.op = .call { callee := .builtin .append, args := #[s, x], argTypes := #[24, 24] }) (B : Nat) (v : Value) (l l2 : List A3) (b of_ m c : Nat)
    (hs : a.eval s = v) (hx : a.eval x = .slice (some ⟨b, of_, none⟩) m c) (hO : OwnA3 W B v l) (hm : l2.length = m) (hR : Rd W (some ⟨b, of_, none⟩) (A3.flat l2)) (hl : l.length + m ≤ 1000000000) (hB : B ≤ W.heap.size)
    (hK : ∀ v' w', OwnA3 w' B v' (l ++ l2) → Below B W w' → W.grownBy w' v.ownBlock → K (a.put o.dst v') w') : if Region.wanted o (yielded ops a.tmps) = true then Oper.wp Try.prog o a W K Q else E := by
  have hw : Region.wanted o (yielded ops a.tmps) = true := by simp [Region.wanted, hg]
  rw [if_pos hw]
  obtain ⟨i, hi, hz, hsz, hb⟩ := info_parts A3.info
  have hnews : ∀ j u, (A3.flat l2)[j]? = some u → W.cell? ((⟨b, of_, none⟩ : Addr).add j) = some u := fun j u hu => by
    obtain ⟨b', o', e, _, hc⟩ := hR (Nat.lt_of_le_of_lt (Nat.zero_le _) (List.getElem?_eq_some_iff.1 hu).1)
    injection e with e
    injection e with e1 e2
    subst e1; subst e2
    have hadd : (⟨b, of_, none⟩ : Addr).add j = ⟨b, of_ + j, none⟩ := by unfold Addr.add; split <;> simp_all
    rw [hadd]; exact hc j u hu
  obtain ⟨v', w', hrun, g1, g2, _, _⟩ := run_append_own_at (P := Try.prog) W B 24 o.type 56 i (.agg #[.int .i64 0, .int .i64 0, .int .i64 0]) 3 24 Try.underlying24 hi hz hsz hb rfl (by decide) v l.length (A3.flat l) hO ⟨b, of_, none⟩ m c (A3.flat l2) (by rw [A3.flat_len, hm]; omega) hnews (A3.flat_one l2) (by simp only [maxLen]; omega) (by omega) hB
  unfold Oper.wp
  simp only [execOp, hop, resolve, invoke, builtin, Sem.run_bind, Sem.run_pure, Result.andThen_ok, List.map_toArray, List.map_cons, List.map_nil, hs, hx, hrun]
  refine hK v' w' ?_ ((Below.refl _ _).grown g2 hB (fun k hk => (World.ownsRow.lt hO k hk).1)) g2
  unfold OwnA3
  rw [List.length_append, hm]
  have e : A3.flat (l ++ l2) = A3.flat l ++ A3.flat l2 := by simp [A3.flat]
  rw [e]; exact g1
theorem bs_yes {x : A3} {r ps b : List A3} (h : free ps x = true) : bs (x :: r) ps b = bs r ps (gfP b (bs r (ps ++ [x]) (ps ++ [x]))) := by rw [bs, if_pos h]
theorem bs_no {x : A3} {r ps b : List A3} (h : free ps x = false) : bs (x :: r) ps b = bs r ps b := by rw [bs, if_neg (by simp [h])]

set_option maxRecDepth 100000 in
set_option maxHeartbeats 8000000 in
theorem l7_best (A : List A3) (pa : Option Addr) (m ca : Nat) (hm : A.length = m) (hl : m ≤ 100000) :
    ∀ (d k : Nat) (K : Int) (ps : List A3) (g n c B : Nat) (w : World), K = (k : Int) → m = k + d → ps.length = n → n + d ≤ 100000 → Rd w pa (A3.flat A) → OwnA3 w B (.slice (some ⟨g, 0, none⟩) n c) ps → B ≤ w.heap.size →
      Calls Try.prog 71 #[.slice pa m ca, .slice (some ⟨g, 0, none⟩) n c, .int .i64 K] w fun e w' => ∃ g' c', e = .returned (.slice (some ⟨g', 0, none⟩) (bs (A.drop k) ps ps).length c') ∧ OwnA3 w' B (.slice (some ⟨g', 0, none⟩) (bs (A.drop k) ps ps).length c') (bs (A.drop k) ps ps) ∧ Below w.heap.size w w' := by
  have HM := Lib.hid hm
  clear hm
  intro d
  induction d using Nat.strongRecOn with
  | ind d ih =>
  intro k K ps g n c B w hK hd hn hnd hA hO hB
  have IH := Lib.hid ih
  have HN := Lib.hid hn
  have HA0 := Lib.hid hA
  have HO0 := Lib.hid hO
  have HBz := Lib.hid hB
  have HNK := Lib.hid hd
  have hkm : k ≤ m := by omega
  obtain ⟨t, htg⟩ : ∃ t, bs (A.drop k) ps ps = t := ⟨_, rfl⟩
  rw [htg]
  have HT := Lib.hid htg
  clear ih hn hA hO hB hd htg
  subst hK
  go_enter Try.func71, Try.ntmps71
  go_wp2_with fail
  go_loopw [7, 8, 9] (fun u i _ wr => ∃ (j : Nat) (b : List A3) (gb cb x : Nat), k ≤ j ∧ j ≤ m ∧ i = .int .i64 j ∧ u = .slice (some ⟨gb, 0, none⟩) x cb ∧ x ≤ 100000 ∧ Hid (b.length = x) ∧ Hid (OwnA3 wr B (.slice (some ⟨gb, 0, none⟩) x cb) b) ∧ Hid (bs (A.drop j) ps b = t) ∧ Hid (Below w.heap.size w wr)) (fun _ i _ _ => m - (intOf i).toNat)
  case atStart => exact ⟨k, ps, g, c, n, Nat.le_refl _, hkm, rfl, rfl, by omega, HN, HO0, HT, Lib.hid (Below.refl _ _)⟩
  case round =>
    obtain ⟨j, b, gb, cb, x, hkj, hjm, rfl, rfl, hx1, Hbl, HBe, HTg, HB⟩ := hrel
    have HA := Lib.hid (HA0.out.below HB.out)
    have HV := Lib.hid (HO0.out.below HB.out)
    by_cases hlt : j < m
    · obtain ⟨bb, o, y, rfl, hbb, hy, c0, c1, c2⟩ := HA.out.aA3 (k := j) (by rw [HM.out]; exact hlt)
      have m0 : (0 : Int) ≤ (j : Int) := by omega
      have m1 : (j : Int) < (m : Int) := by omega
      have hdp : A.drop j = y :: A.drop (j + 1) := by
        obtain ⟨hk', e⟩ := List.getElem?_eq_some_iff.1 hy
        rw [← e]
        exact List.drop_eq_getElem_cons hk'
      rw [hdp] at HTg
      have HP := fun w' (hw : Rd w' (some ⟨g, 0, none⟩) (A3.flat ps)) => l7_free ps y (some ⟨g, 0, none⟩) n c w' HN.out (by omega) hw
      obtain ⟨fr, hfr⟩ : ∃ fr, free ps y = fr := ⟨_, rfl⟩
      rw [hfr] at HP
      have HFr := Lib.hid hfr
      replace HP := Lib.hid HP
      clear hy hdp hfr
      go_wp2_with fail
      refine (HP.out _ HV.out.rd).mono ?_
      rintro e w2 ⟨rfl, b2⟩
      have d0 := (b2.cell (p := ⟨bb, _, none⟩) hbb).trans c0
      have d1 := (b2.cell (p := ⟨bb, _, none⟩) hbb).trans c1
      have d2 := (b2.cell (p := ⟨bb, _, none⟩) hbb).trans c2
      have HBB : Hid (bb < w2.heap.size) := Lib.hid (Nat.lt_of_lt_of_le hbb b2.size)
      have HA2 := Lib.hid (HA.out.below b2)
      have HV2 := Lib.hid (HV.out.below b2)
      have HBe2 := Lib.hid (HBe.out.below b2)
      have HB2 : Hid (Below w.heap.size w w2) := Lib.hid (chain0 HB.out b2)
      clear b2 c0 c1 c2 hbb HA HV HBe HB
      cases fr
      · rw [bs_no HFr.out] at HTg
        go_wp2_with fail
        go_roundw
        case rel => exact ⟨j + 1, b, gb, cb, x, by omega, by omega, by go_num, rfl, hx1, Hbl, HBe2, HTg, HB2⟩
        case measure => simp [intOf]; omega
      · rw [bs_yes HFr.out] at HTg
        obtain ⟨d', hd'⟩ : ∃ d', m = (j + 1) + d' := ⟨m - (j + 1), by omega⟩
        have hdd : d' < d := by have := HNK.out; omega
        have HHd := Lib.hid hd'
        have hnx : n + 1 + d' ≤ 100000 := by have := HNK.out; omega
        have HLn : Hid ((bs (A.drop (j + 1)) (ps ++ [y]) (ps ++ [y])).length ≤ 100000) := Lib.hid (bs_len _ _ _ _ (by rw [List.length_append, HN.out]; simp; omega) (by rw [List.length_append, HN.out, List.length_drop, HM.out]; simp; omega))
        have HVr := Lib.hid HV2.out.rd
        have hlx : (ps ++ [y]).length = n + 1 := by rw [List.length_append, HN.out]; rfl
        have HLx := Lib.hid hlx
        have HE0 : Hid ([] ++ ps = ps) := Lib.hid rfl
        have HD0 := Lib.hid d0
        have HD1 := Lib.hid d1
        have HD2 := Lib.hid d2
        have hwr : IntKind.i64.wrap ((j : Int) + 1) = (j : Int) + 1 := IntWalk.i64_in _ (by omega)
        clear hd' hlx
        go_wp2_with fail
        go_region_held3 (fun w' => w'.cell? ⟨bb, o + j * 3, none⟩ = some (.int .i64 y.a) ∧ w'.cell? ⟨bb, o + j * 3 + 1, none⟩ = some (.int .i64 y.b) ∧ w'.cell? ⟨bb, o + j * 3 + 2, none⟩ = some (.int .i64 y.c)) (first | exact ⟨d0, d1, d2⟩ | go_keep) (first
          | (refine step_appends3 rfl (.tmp 26) (.tmp 27) rfl w2.heap.size (.slice (some ⟨_, 0, none⟩) 0 0) [] ps g 0 n c rfl rfl ?_ HN.out (by repeat (first | with_reducible exact HVr.out | with_reducible apply Rd.drewN | with_reducible apply Rd.drew | with_reducible apply Rd.alloc)) (by simp; omega) (by first | (simp; done) | (simp; omega)) ?_
             · repeat (first | exact OwnA3.emptyAt (by simp) (by simp) | with_reducible apply OwnA3.drew | with_reducible apply OwnA3.alloc)
             intro v5 w5 ho5 hb5 hg5
             have HO5 : Hid (OwnA3 w5 w2.heap.size v5 ps) := Lib.hid ho5
             have HB5 : Hid (Below w2.heap.size w2 w5) := Lib.hid (Below.trans (by repeat (first | exact Below.refl _ _ | with_reducible apply Below.drew | with_reducible refine Below.alloc ?_ (by first | exact Nat.le_refl _ | (simp; done) | (simp; omega)) _)) hb5)
             (first
               | (have K33 := Lib.hid (box_26_33 hg5))
               | (have K33 := Lib.hid (box_33_26 hg5))
               | skip)
             have d0 := (HB5.out.cell (p := ⟨bb, _, none⟩) HBB.out).trans HD0.out
             have d1 := (HB5.out.cell (p := ⟨bb, _, none⟩) HBB.out).trans HD1.out
             have d2 := (HB5.out.cell (p := ⟨bb, _, none⟩) HBB.out).trans HD2.out
             clear ho5 hb5 hg5)
          | (refine step_appends3 rfl (.tmp 28) (.tmp 33) rfl w2.heap.size v5 ps [y] w5.heap.size 0 1 1 rfl rfl ?_ rfl ?_ (by have := HN.out; simp; omega) ?_ ?_
             · repeat (first | with_reducible exact HO5.out | with_reducible apply OwnA3.drew | with_reducible apply OwnA3.alloc)
             · refine TBox.rd3 ?_
               (repeat (first | exact TBox.newAt rfl rfl | with_reducible apply TBox.drew)); done
             · first | exact HB5.out.size | (have := HB5.out.size; simp; omega)
             intro v6 w6 ho6 hb6 hg6
             have HB6 : Hid (Below w2.heap.size w2 w6) := Lib.hid (Below.trans (by repeat (first | with_reducible exact HB5.out | with_reducible apply Below.drew | with_reducible refine Below.alloc ?_ (by have := HB5.out.size; simp; omega) _)) hb6)
             obtain ⟨p6, c6, rfl, hc6, _, hp6⟩ := ho6.form
             rw [HLx.out] at ho6 hc6 hp6 ⊢
             obtain ⟨g6, rfl, _⟩ := hp6 (by omega)
             have HO6 := Lib.hid ho6
             have d0 := (HB6.out.cell (p := ⟨bb, _, none⟩) HBB.out).trans HD0.out
             have d1 := (HB6.out.cell (p := ⟨bb, _, none⟩) HBB.out).trans HD1.out
             have d2 := (HB6.out.cell (p := ⟨bb, _, none⟩) HBB.out).trans HD2.out
             clear ho6 hb6 hg6 hc6 hp6)
          | (refine step_appends3 rfl (.tmp 28) (.tmp 33) rfl w2.heap.size v5 ps [y] w2.heap.size 0 1 1 rfl rfl ?_ rfl ?_ (by have := HN.out; simp; omega) ?_ ?_
             · repeat (first | with_reducible exact HO5.out | with_reducible apply OwnA3.drew | with_reducible apply OwnA3.alloc)
             · refine TBox.rd3 ?_
               (repeat (first | with_reducible exact K33.out | with_reducible apply TBox.drew)); done
             · first | exact HB5.out.size | (have := HB5.out.size; simp; omega)
             intro v6 w6 ho6 hb6 hg6
             have HB6 : Hid (Below w2.heap.size w2 w6) := Lib.hid (Below.trans (by repeat (first | with_reducible exact HB5.out | with_reducible apply Below.drew | with_reducible refine Below.alloc ?_ (by have := HB5.out.size; simp; omega) _)) hb6)
             obtain ⟨p6, c6, rfl, hc6, _, hp6⟩ := ho6.form
             rw [HLx.out] at ho6 hc6 hp6 ⊢
             obtain ⟨g6, rfl, _⟩ := hp6 (by omega)
             have HO6 := Lib.hid ho6
             have d0 := (HB6.out.cell (p := ⟨bb, _, none⟩) HBB.out).trans HD0.out
             have d1 := (HB6.out.cell (p := ⟨bb, _, none⟩) HBB.out).trans HD1.out
             have d2 := (HB6.out.cell (p := ⟨bb, _, none⟩) HBB.out).trans HD2.out
             clear ho6 hb6 hg6 hc6 hp6)
          | (refine step_appends3 rfl (.tmp 28) (.tmp 33) rfl w2.heap.size v5 ps [y] (w2.heap.size + 1) 0 1 1 rfl rfl ?_ rfl ?_ (by have := HN.out; simp; omega) ?_ ?_
             · repeat (first | with_reducible exact HO5.out | with_reducible apply OwnA3.drew | with_reducible apply OwnA3.alloc)
             · refine TBox.rd3 ?_
               (repeat (first | with_reducible exact K33.out | with_reducible apply TBox.drew)); done
             · first | exact HB5.out.size | (have := HB5.out.size; simp; omega)
             intro v6 w6 ho6 hb6 hg6
             have HB6 : Hid (Below w2.heap.size w2 w6) := Lib.hid (Below.trans (by repeat (first | with_reducible exact HB5.out | with_reducible apply Below.drew | with_reducible refine Below.alloc ?_ (by have := HB5.out.size; simp; omega) _)) hb6)
             obtain ⟨p6, c6, rfl, hc6, _, hp6⟩ := ho6.form
             rw [HLx.out] at ho6 hc6 hp6 ⊢
             obtain ⟨g6, rfl, _⟩ := hp6 (by omega)
             have HO6 := Lib.hid ho6
             have d0 := (HB6.out.cell (p := ⟨bb, _, none⟩) HBB.out).trans HD0.out
             have d1 := (HB6.out.cell (p := ⟨bb, _, none⟩) HBB.out).trans HD1.out
             have d2 := (HB6.out.cell (p := ⟨bb, _, none⟩) HBB.out).trans HD2.out
             clear ho6 hb6 hg6 hc6 hp6)
          | (go_at_call 71; refine (IH.out d' hdd (j + 1) _ (ps ++ [y]) g6 (n + 1) c6 w2.heap.size _ (by simp) (by have := HHd.out; omega) HLx.out hnx ?_ ?_ ?_).mono ?_
             · repeat (first | with_reducible exact Rd.below HA2.out (HB6.out) | with_reducible apply Rd.drewN | with_reducible apply Rd.drew)
             · repeat (first | with_reducible exact HO6.out | with_reducible apply OwnA3.drewN | with_reducible apply OwnA3.drew)
             · exact HB6.out.size
             rintro e w7 ⟨g7, c7, rfl, ho7, b7⟩
             have HO7 := Lib.hid ho7
             have HB7 : Hid (Below w2.heap.size w2 w7) := Lib.hid (Below.trans HB6.out (b7.mono HB6.out.size))
             have d0 := (HB7.out.cell (p := ⟨bb, _, none⟩) HBB.out).trans HD0.out
             have d1 := (HB7.out.cell (p := ⟨bb, _, none⟩) HBB.out).trans HD1.out
             have d2 := (HB7.out.cell (p := ⟨bb, _, none⟩) HBB.out).trans HD2.out
             clear ho7 b7))
        all_goals
          have HO8 := Lib.hid (OwnA3.base HO7.out (Nat.le_trans HBz.out HB2.out.size))
          have HB8 : Hid (Below w.heap.size w w7) := Lib.hid (chain0 HB2.out HB7.out)
          have HBe8 := Lib.hid (HBe2.out.below HB7.out)
          obtain ⟨x7, hx7⟩ : ∃ x7, (bs (A.drop (j + 1)) (ps ++ [y]) (ps ++ [y])).length = x7 := ⟨_, rfl⟩
          have HX7 := Lib.hid hx7
          have hx7n : x7 ≤ 100000 := by rw [← hx7]; exact HLn.out
          rw [hx7] at HO8 ⊢
          clear hx7
          by_cases h7 : x < x7
          · have HGf := Lib.hid (show gfP b (bs (A.drop (j + 1)) (ps ++ [y]) (ps ++ [y])) = bs (A.drop (j + 1)) (ps ++ [y]) (ps ++ [y]) by unfold gfP; rw [if_pos (by rw [Hbl.out, HX7.out]; exact h7)])
            have hd7 : (x : Int) < (x7 : Int) := by omega
            go_wp2_with fail
            go_roundw
            case rel => exact ⟨j + 1, _, g7, c7, x7, by omega, by omega, by go_num, rfl, hx7n, HX7, HO8, Lib.hid (by have h1 := HTg.out; rw [HGf.out] at h1; exact h1), HB8⟩
            case measure => simp [intOf]; omega
          · have HGf := Lib.hid (show gfP b (bs (A.drop (j + 1)) (ps ++ [y]) (ps ++ [y])) = b by unfold gfP; rw [if_neg (by rw [Hbl.out, HX7.out]; exact h7)])
            have hd7 : ¬ (x : Int) < (x7 : Int) := by omega
            go_wp2_with fail
            go_roundw
            case rel => exact ⟨j + 1, b, gb, cb, x, by omega, by omega, by go_num, rfl, hx1, Hbl, HBe8, Lib.hid (by have h1 := HTg.out; rw [HGf.out] at h1; exact h1), HB8⟩
            case measure => simp [intOf]; omega
    · obtain rfl : j = m := by omega
      have HTb := Lib.hid (show b = t by
        have h := HTg.out
        rw [List.drop_of_length_le (by rw [HM.out]; exact Nat.le_refl _)] at h
        exact h)
      go_wp2_with fail
      go_ret
      exact ⟨gb, cb, by rw [← HTb.out, Hbl.out]; rfl, by rw [← HTb.out, Hbl.out]; exact HBe.out, HB.out⟩
end Go.Proofs.Ytnmlggieabjapaa.parting
