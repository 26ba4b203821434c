/- How many cards lie there in each Deal of a game: the program. -/
import Derived.Test.YtghjopgbhodccaaWb
import Derived.Test.YtghjopgbhodccaaAt
namespace Go.Proofs.Ytghjopgbhodccaa.deal
open Go.RowKit
open cards
set_option linter.unusedVariables false

/-- The sizes of the first k Deals. -/
noncomputable def szs (s : Int) (k : Nat) : List Int := (List.range k).map (fun j => ((stp (newD s) j).l.length : Int))
theorem szs_snoc (s : Int) (k : Nat) : szs s (k + 1) = szs s k ++ [((stp (newD s) k).l.length : Int)] := by simp [szs, List.range_succ]
theorem szs_len (s : Int) (k : Nat) : (szs s k).length = k := by simp [szs]
theorem cell_past {wr w4 : World} {X : Obj} {g : Nat} {v : Value} (hz : g < wr.heap.size) (hG : (wr.alloc X).grownBy w4 v.ownBlock) (ha : ∀ q, v.ownBlock = some q → q ≠ g) (o : Nat) : w4.cell? ⟨g, o, none⟩ = wr.cell? ⟨g, o, none⟩ := by
  have h1 := hG.block g (by simp; omega) (fun e => ha g e.symm rfl)
  have h2 := Below.heap_alloc wr X g hz
  exact World.cell?_of_block (w := wr) (a := ⟨g, o, none⟩) (h1.trans h2)
noncomputable def zR (s : Int) : List Int × Bool := if isSd s = true then (szs s (lastK (newD s) + 1), true) else ([], false)
theorem last_bd {s : Int} (h : 0 ≤ s ∧ s ≤ 65535) : lastK (newD s) ≤ 200 := (last_27 h (lastK_end (new_ok h))).2.2.2.2
theorem zR_len (s : Int) : (zR s).1.length ≤ 1000 := by
  unfold zR; split
  · rename_i h
    have := last_bd (isSd_iff.1 h)
    show (szs s _).length ≤ _
    rw [szs_len]; omega
  · simp

set_option maxRecDepth 100000 in
set_option maxHeartbeats 4000000 in
theorem impl_z (s : Int) (w : World) :
    Calls Try.prog 51 #[.int .i64 s] w fun e w' => ∃ u, e = .returned (.tuple #[u, .bool (zR s).2]) ∧ OwnI w' w.heap.size u (zR s).1 ∧ Below w.heap.size w w' := by
  go_enter Try.func51, Try.ntmps51
  go_wp2_with fail
  refine ((is_seed s _)).mono ?_
  rintro e w1 ⟨rfl, b⟩
  have Sw1 := Lib.hid b.size
  have HB := Lib.hid (chain0 (w := w) (by repeat (first | with_reducible exact Below.refl _ _ | with_reducible exact HB.out | with_reducible apply Below.drew | with_reducible apply bdN | with_reducible refine Below.alloc ?_ (by first | exact Nat.le_refl _ | (simp; done) | (simp; omega) | (have := HB.out.size; simp at *; omega)) _ | with_reducible refine Below.setCell ?_ (by first | exact Nat.le_refl _ | (simp; done) | (simp; omega) | (have := HB.out.size; simp at *; omega)) _)) b)
  clear b
  cases hs : isSd s
  · have HT := Lib.hid (show zR s = ([], false) by unfold zR; rw [if_neg (by simp [hs])])
    go_wp2_with fail
    go_ret2
    exact ⟨_, ret_two (by rw [HT.out]), by rw [HT.out]; exact OwnI.empty _ _ HB.out.size, by repeat (first | with_reducible exact Below.refl _ _ | with_reducible exact HB.out | with_reducible apply Below.drew | with_reducible apply bdN | with_reducible refine Below.alloc ?_ (by first | exact Nat.le_refl _ | (simp; done) | (simp; omega) | (have := HB.out.size; simp at *; omega)) _ | with_reducible refine Below.setCell ?_ (by first | exact Nat.le_refl _ | (simp; done) | (simp; omega) | (have := HB.out.size; simp at *; omega)) _)⟩
  · obtain ⟨K, hK⟩ : ∃ K, lastK (newD s) = K := ⟨_, rfl⟩
    have HT := Lib.hid (show zR s = (szs s (K + 1), true) by unfold zR; rw [if_pos hs, hK])
    have hs2 := isSd_iff.1 hs
    have hK2 : K ≤ 200 := by rw [← hK]; exact last_bd hs2
    have HKe := Lib.hid (show endAt (newD s) K by rw [← hK]; exact lastK_end (new_ok hs2))
    have HO0 := Lib.hid (OwnI.empty w1 w.heap.size HB.out.size)
    clear hs hK
    go_wp2_with fail
    refine (deals_from s _ hs2 K HKe.out hK2).mono ?_
    rintro e w2 ⟨u, rs, g, rfl, ho, hln, hrs, b⟩
    obtain ⟨pu, cu, rfl, hcl⟩ := ho.form
    obtain ⟨gu, rfl, hgu, hcells⟩ := hcl (by omega)
    rw [hln]
    have hb2 := b
    have Sw2 := Lib.hid b.size
    have HB := Lib.hid (chain0 (w := w) (by repeat (first | with_reducible exact Below.refl _ _ | with_reducible exact HB.out | with_reducible apply Below.drew | with_reducible apply bdN | with_reducible refine Below.alloc ?_ (by first | exact Nat.le_refl _ | (simp; done) | (simp; omega) | (have := HB.out.size; simp at *; omega)) _ | with_reducible refine Below.setCell ?_ (by first | exact Nat.le_refl _ | (simp; done) | (simp; omega) | (have := HB.out.size; simp at *; omega)) _)) b)
    clear b
    have HC := Lib.hid hcells
    have HSp := Lib.hid (ho.span gu rfl).1
    have HG := Lib.hid hgu
    have HLn := Lib.hid hln
    have HRs := Lib.hid hrs
    have HO := Lib.hid (HO0.out.below hb2)
    obtain ⟨N, hN⟩ : ∃ N : Nat, N = K + 1 := ⟨_, rfl⟩
    have HNn := Lib.hid hN
    rw [← hN]
    clear hcl hcells hgu hln hrs ho hb2 hN HO0
    go_wp2_with fail
    go_loopw [4, 6, 15] (fun o _ i wr => ∃ k : Nat, k ≤ N ∧ i = .int .i64 k ∧ Hid (OwnI wr w.heap.size o (szs s k)) ∧ Hid (∀ j r, rs[j]? = some r → wr.cell? ⟨gu, j * 3, none⟩ = some (.int .i64 r.s) ∧ wr.cell? ⟨gu, j * 3 + 1, none⟩ = some (.int .i64 r.n) ∧ wr.cell? ⟨gu, j * 3 + 2, none⟩ = some r.v) ∧ Hid (Below w.heap.size w wr) ∧ gu < wr.heap.size ∧ Hid (∀ q, o.ownBlock = some q → q ≠ gu)) (fun _ _ i _ => N - (intOf i).toNat)
    case atStart => exact ⟨0, Nat.zero_le _, rfl, HO, HC, HB, HG.out, Lib.hid (fun q e => by have e : some w1.heap.size = some q := e; injection e with e; have := HSp.out; simp at this; omega)⟩
    case round =>
      clear HO HC HB HG
      obtain ⟨k, hk, rfl, HO, HC, HB, hgz, HAp⟩ := hrel
      by_cases hlt : k < N
      · obtain ⟨r, hr⟩ : ∃ r, rs[k]? = some r := ⟨_, List.getElem?_eq_getElem (by rw [HLn.out, ← HNn.out]; exact hlt)⟩
        obtain ⟨c0, c1, c2⟩ := HC.out k r hr
        obtain ⟨pr, cr, hrv⟩ := (HRs.out k r hr).2.2.1
        obtain ⟨m, hm⟩ : ∃ m, (stp (newD s) k).l.length = m := ⟨_, rfl⟩
        have HSn := Lib.hid (szs_snoc s k)
        rw [hm] at hrv HSn
        rw [hrv] at c2
        have HLs := Lib.hid (szs_len s k)
        have m0 : (0 : Int) ≤ (k : Int) := by omega
        have m1 : (k : Int) < (N : Int) := by omega
        have m2 : (N : Int) ≤ 201 := by have := HNn.out; omega
        have HGz := Lib.hid hgz
        clear hr hrv hm hgz
        go_wp2_with (at_builtin; refine append_int_at rfl (.tmp 19) (.tmp 23) rfl w.heap.size _ (szs s k) (m : Int) _ (wr.heap.size + 1) (by simp) rfl rfl (HO.out.alloc _) (by have := HLs.out; have := HNn.out; omega) (by have := HB.out.size; simp; omega) ?_; intro v1 w4 hO1 hB1 hG1 hA1)
        rw [← HSn.out] at hO1
        go_roundw
        case rel => exact ⟨k + 1, by omega, by go_num, hO1, Lib.hid (fun j r hj => by
            obtain ⟨d0, d1, d2⟩ := HC.out j r hj
            have hc : ∀ o, w4.cell? ⟨gu, o, none⟩ = wr.cell? ⟨gu, o, none⟩ := fun o => cell_past HGz.out hG1 HAp.out o
            exact ⟨(hc _).trans d0, (hc _).trans d1, (hc _).trans d2⟩), Lib.hid (Below.trans (by repeat (first | with_reducible exact Below.refl _ _ | with_reducible exact HB.out | with_reducible apply Below.drew | with_reducible apply bdN | with_reducible refine Below.alloc ?_ (by first | exact Nat.le_refl _ | (simp; done) | (simp; omega) | (have := HB.out.size; simp at *; omega)) _ | with_reducible refine Below.setCell ?_ (by first | exact Nat.le_refl _ | (simp; done) | (simp; omega) | (have := HB.out.size; simp at *; omega)) _)) hB1), Nat.lt_of_lt_of_le (Nat.lt_succ_of_lt HGz.out) (by have := hG1.size; simpa using this), Lib.hid (fun q e => by
              rcases hA1 with h | h
              · rw [h] at e; exact HAp.out q e
              · rw [h] at e; injection e with e; have := HGz.out; simp at e; omega)⟩
        case measure => simp [intOf]; omega
      · obtain rfl : k = N := by omega
        go_wp2_with fail
        go_ret2
        exact ⟨_, ret_two (by rw [HT.out]), by rw [HT.out, ← HNn.out]; exact HO.out, HB.out⟩

end Go.Proofs.Ytghjopgbhodccaa.deal
