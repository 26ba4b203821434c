/- MiddlesOf: four cards that are different: the model. -/
import Derived.Test.YtjmlefcmhjodeaaXc
import Derived.Test.YtjmlefcmhjodeaaDp
namespace Go.Proofs.Ytjmlefcmhjodeaa.others
open Go.RowKit
open cards
set_option linter.unusedVariables false

abbrev four (x y z t : Cd) : Array Value := #[.int .i64 x.a, .int .i64 x.b, .int .i64 x.c, .int .i64 x.d, .int .i64 y.a, .int .i64 y.b, .int .i64 y.c, .int .i64 y.d, .int .i64 z.a, .int .i64 z.b, .int .i64 z.c, .int .i64 z.d, .int .i64 t.a, .int .i64 t.b, .int .i64 t.c, .int .i64 t.d]
/-- The first i cards are cards, and no two of them are the same. -/
def goodTo (l : List Cd) (i : Nat) : Prop := ∀ (j : Nat) x, j < i → l[j]? = some x → x.ok = true ∧ ∀ (k : Nat) y, k < j → l[k]? = some y → same y x = false
noncomputable def fourB (l : List Cd) : Bool := @decide (goodTo l l.length) (Classical.propDecidable _)
theorem fourB_yes {l : List Cd} (h : goodTo l l.length) : fourB l = true := by unfold fourB; exact @decide_eq_true _ (Classical.propDecidable _) h
theorem fourB_of {l : List Cd} (h : fourB l = true) : goodTo l l.length := by unfold fourB at h; exact @of_decide_eq_true _ (Classical.propDecidable _) h
theorem fourB_bad {l : List Cd} {i : Nat} {x : Cd} (hx : l[i]? = some x) (h : x.ok = false) : fourB l = false := by
  rw [Bool.eq_false_iff]; intro hh
  have := (fourB_of hh i x (List.getElem?_eq_some_iff.1 hx).1 hx).1
  rw [h] at this; cases this
theorem fourB_same {l : List Cd} {i k : Nat} {x y : Cd} (hki : k < i) (hx : l[i]? = some x) (hy : l[k]? = some y) (h : same y x = true) : fourB l = false := by
  rw [Bool.eq_false_iff]; intro hh
  have := (fourB_of hh i x (List.getElem?_eq_some_iff.1 hx).1 hx).2 k y hki hy
  rw [h] at this; cases this
theorem wf_at {x y z t : Cd} (hx : wf4 x) (hy : wf4 y) (hz : wf4 z) (ht : wf4 t) {i : Nat} {u : Cd} (h : [x, y, z, t][i]? = some u) : wf4 u := by
  have hi := (List.getElem?_eq_some_iff.1 h).1
  simp at hi
  rcases (show i = 0 ∨ i = 1 ∨ i = 2 ∨ i = 3 by omega) with rfl | rfl | rfl | rfl <;> simp at h <;> subst h <;> assumption

set_option maxRecDepth 100000 in
set_option maxHeartbeats 4000000 in
theorem l10_four (x y z t : Cd) (w : World) (hx : wf4 x) (hy : wf4 y) (hz : wf4 z) (ht : wf4 t) :
    Calls Try.prog 52 #[.agg (four x y z t)] w fun e w' => e = .returned (.bool (fourB [x, y, z, t])) ∧ Below w.heap.size w w' := by
  have HWf := Lib.hid (fun (i : Nat) (u : Cd) (h : [x, y, z, t][i]? = some u) => wf_at hx hy hz ht h)
  have HR : Hid (Rd (w.alloc (.cells (four x y z t) 59)) (some ⟨w.heap.size, 0, none⟩) (flat [x, y, z, t])) := Lib.hid (Rd.newAt rfl rfl)
  have HB : Hid (Below w.heap.size w (w.alloc (.cells (four x y z t) 59))) := Lib.hid ((Below.refl _ _).alloc (Nat.le_refl _) _)
  have HN := Lib.hid (show ([x, y, z, t] : List Cd).length = 4 from rfl)
  clear hx hy hz ht
  generalize [x, y, z, t] = l at *
  go_enter Try.func52, Try.ntmps52
  go_upto_region 1 with fail
  generalize w.alloc (.cells (four x y z t) 59) = W at *
  obtain ⟨g, hg⟩ : ∃ g, w.heap.size = g := ⟨_, rfl⟩
  rw [hg] at HR
  try rw [hg]
  clear hg
  go_wp2_with fail
  go_loopw [3, 4] (fun i _ wr => ∃ k : Nat, k ≤ 4 ∧ i = .int .i64 k ∧ Hid (goodTo l k) ∧ Hid (Below w.heap.size w wr) ∧ Hid (Rd wr (some ⟨g, 0, none⟩) (flat l))) (fun i _ _ => 4 - (intOf i).toNat)
  case atStart => exact ⟨0, Nat.zero_le _, rfl, Lib.hid (fun j x hj => absurd hj (Nat.not_lt_zero j)), HB, HR⟩
  case round =>
    clear HB HR
    obtain ⟨k, hk, rfl, HG, HB, HR⟩ := hrel
    have m0 : (0 : Int) ≤ (k : Int) := by omega
    by_cases hlt : k < 4
    · obtain ⟨wo, HWo⟩ : ∃ wo : World, Hid (wo = wr) := ⟨_, rfl⟩
      have m1 : (k : Int) < 4 := by omega
      go_wp2_with fail
      go_loopw [4] (fun i wr => ∃ j : Nat, j ≤ k ∧ i = .int .i64 j ∧ Hid (∀ (m : Nat) u v, m < j → l[m]? = some u → l[k]? = some v → same u v = false) ∧ Hid (Below w.heap.size w wr) ∧ Hid (Rd wr (some ⟨g, 0, none⟩) (flat l))) (fun i _ => k - (intOf i).toNat)
      case atStart => exact ⟨0, Nat.zero_le _, rfl, Lib.hid (fun m u v hm => absurd hm (Nat.not_lt_zero m)), HB, HR⟩
      case round =>
        clear HB HR
        obtain ⟨j, hj, rfl, HD, HB, HR⟩ := hrel
        obtain ⟨b1, o1, u, hbo, hb1, hu, c0, c1, c2, c3⟩ := HR.out.card (k := k) (by rw [HN.out]; exact hlt)
        injection hbo with hbo
        injection hbo with e1 e2
        subst e1; subst e2
        simp only [Nat.zero_add] at c0 c1 c2 c3
        have HU := Lib.hid hu
        have m2 : (0 : Int) ≤ (j : Int) := by omega
        by_cases hjt : j < k
        · obtain ⟨b2, o2, v, hbo, hb2, hv, d0, d1, d2, d3⟩ := HR.out.card (k := j) (by rw [HN.out]; omega)
          injection hbo with hbo
          injection hbo with e1 e2
          subst e1; subst e2
          simp only [Nat.zero_add] at d0 d1 d2 d3
          have HV := Lib.hid hv
          have he := eq_runW v u (HWf.out j v hv) (HWf.out k u hu)
          clear hu hv
          have m3 : (j : Int) < 4 := by omega
          have m4 : (j : Int) < (k : Int) := by omega
          cases hq : same v u
          · rw [hq] at he
            have HQ := Lib.hid hq
            clear hq
            go_wp2_with fail
            have qc0 := fun d os => cell_regrown c0 d os
            have qc1 := fun d os => cell_regrown c1 d os
            have qc2 := fun d os => cell_regrown c2 d os
            have qc3 := fun d os => cell_regrown c3 d os
            have qd0 := fun d os => cell_regrown d0 d os
            have qd1 := fun d os => cell_regrown d1 d os
            have qd2 := fun d os => cell_regrown d2 d os
            have qd3 := fun d os => cell_regrown d3 d os
            refine wp_region_quiet_below (by kernel_rfl) (by kernel_rfl) ?_
            repeat (first | go_big_quiet_step ((fail)) | quiet_step ((fail)))
            refine wpQuiet_nil ?_
            intro w2 hw2
            have b : Below wr.heap.size wr w2 := by obtain ⟨r, hr⟩ := hw2; rw [hr]; exact below_regrown _ _ _
            clear hw2 qc0 qc1 qc2 qc3 qd0 qd1 qd2 qd3
            have Sw2 := Lib.hid b.size
            have HB := Lib.hid (chain0 (w := w) (by repeat (first | with_reducible exact Below.refl _ _ | with_reducible exact HB.out | with_reducible apply Below.drew | with_reducible apply bdN | with_reducible refine Below.alloc ?_ (by first | exact Nat.le_refl _ | with_reducible exact HB.out.size | omega | (simp; done) | (simp; omega) | (have := HB.out.size; simp at *; omega)) _ | with_reducible refine Below.setCell ?_ (by first | exact Nat.le_refl _ | with_reducible exact HB.out.size | omega | (simp; done) | (simp; omega) | (have := HB.out.size; simp at *; omega)) _)) b)
            have HR := Lib.hid (Rd.below (by repeat (first | with_reducible exact HR.out | with_reducible apply Rd.drewN | with_reducible apply Rd.drew | with_reducible apply Rd.alloc)) b)
            clear b
            clear c0 c1 c2 c3 d0 d1 d2 d3
            go_wp2_with fail
            go_roundw
            case rel => exact ⟨j + 1, by omega, by go_num, Lib.hid (fun m a c hm ha hc => by
              rcases Nat.lt_or_ge m j with h | h
              · exact HD.out m a c h ha hc
              · obtain rfl : m = j := by omega
                have h1 := HV.out; have h2 := HU.out
                rw [ha] at h1; rw [hc] at h2
                injection h1 with h1; injection h2 with h2
                subst h1; subst h2; exact HQ.out), HB, HR⟩
            case measure => simp [intOf]; omega
          · rw [hq] at he
            have HF := Lib.hid (fourB_same hjt HU.out HV.out hq)
            clear hq
            go_wp2_with fail
            have qc0 := fun d os => cell_regrown c0 d os
            have qc1 := fun d os => cell_regrown c1 d os
            have qc2 := fun d os => cell_regrown c2 d os
            have qc3 := fun d os => cell_regrown c3 d os
            have qd0 := fun d os => cell_regrown d0 d os
            have qd1 := fun d os => cell_regrown d1 d os
            have qd2 := fun d os => cell_regrown d2 d os
            have qd3 := fun d os => cell_regrown d3 d os
            refine wp_region_quiet_below (by kernel_rfl) (by kernel_rfl) ?_
            repeat (first | go_big_quiet_step ((fail)) | quiet_step ((fail)))
            refine wpQuiet_nil ?_
            intro w2 hw2
            have b : Below wr.heap.size wr w2 := by obtain ⟨r, hr⟩ := hw2; rw [hr]; exact below_regrown _ _ _
            clear hw2 qc0 qc1 qc2 qc3 qd0 qd1 qd2 qd3
            have Sw2 := Lib.hid b.size
            have HB := Lib.hid (chain0 (w := w) (by repeat (first | with_reducible exact Below.refl _ _ | with_reducible exact HB.out | with_reducible apply Below.drew | with_reducible apply bdN | with_reducible refine Below.alloc ?_ (by first | exact Nat.le_refl _ | with_reducible exact HB.out.size | omega | (simp; done) | (simp; omega) | (have := HB.out.size; simp at *; omega)) _ | with_reducible refine Below.setCell ?_ (by first | exact Nat.le_refl _ | with_reducible exact HB.out.size | omega | (simp; done) | (simp; omega) | (have := HB.out.size; simp at *; omega)) _)) b)
            have HR := Lib.hid (Rd.below (by repeat (first | with_reducible exact HR.out | with_reducible apply Rd.drewN | with_reducible apply Rd.drew | with_reducible apply Rd.alloc)) b)
            clear b
            clear c0 c1 c2 c3 d0 d1 d2 d3
            go_wp2_with fail
            go_ret
            exact ⟨ret_bool HF.out.symm, HB.out⟩
        · obtain rfl : j = k := by omega
          go_wp2_with fail
          refine ((l2_card u _)).mono ?_
          rintro e w2 ⟨rfl, b⟩
          have Sw2 := Lib.hid b.size
          have HB := Lib.hid (chain0 (w := w) (by repeat (first | with_reducible exact Below.refl _ _ | with_reducible exact HB.out | with_reducible apply Below.drew | with_reducible apply bdN | with_reducible refine Below.alloc ?_ (by first | exact Nat.le_refl _ | with_reducible exact HB.out.size | omega | (simp; done) | (simp; omega) | (have := HB.out.size; simp at *; omega)) _ | with_reducible refine Below.setCell ?_ (by first | exact Nat.le_refl _ | with_reducible exact HB.out.size | omega | (simp; done) | (simp; omega) | (have := HB.out.size; simp at *; omega)) _)) b)
          have HR := Lib.hid (Rd.below (by repeat (first | with_reducible exact HR.out | with_reducible apply Rd.drewN | with_reducible apply Rd.drew | with_reducible apply Rd.alloc)) b)
          clear b
          clear c0 c1 c2 c3
          cases hok : u.ok
          · have HF := Lib.hid (fourB_bad HU.out hok)
            go_wp2_with fail
            go_ret
            exact ⟨ret_bool HF.out.symm, HB.out⟩
          · have HG2 : Hid (goodTo l (j + 1)) := Lib.hid (fun m a hm ha => by
              rcases Nat.lt_or_ge m j with h | h
              · exact HG.out m a h ha
              · obtain rfl : m = j := by omega
                have h1 := HU.out
                rw [ha] at h1; injection h1 with h1; subst h1
                exact ⟨hok, fun q y hq hy => HD.out q y a hq hy ha⟩)
            clear hok
            go_wp2_with fail
            go_roundw
            case rel => exact ⟨j + 1, by omega, by go_num, HG2, HB, HR⟩
            case measure => simp [intOf]; omega
    · obtain rfl : k = 4 := by omega
      have HF := Lib.hid (fourB_yes (by rw [HN.out]; exact HG.out))
      go_wp2_with fail
      go_ret
      exact ⟨ret_bool HF.out.symm, HB.out⟩
end Go.Proofs.Ytjmlefcmhjodeaa.others
