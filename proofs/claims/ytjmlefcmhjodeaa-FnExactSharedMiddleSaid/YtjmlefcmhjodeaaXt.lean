/- The card that is the third one of the most pairs: mathematics; mostPairs. -/
import Derived.Test.YtjmlefcmhjodeaaXs
namespace Go.Proofs.Ytjmlefcmhjodeaa.others
open Go.RowKit
open Go.Maps (Keyed)
open cards reg
set_option linter.unusedVariables false

/-- The first of the first k cards that is the third one of the most pairs, and of how many. -/
def best (l : List Cd) : Nat → Cd × Int
  | 0 => (zero, 0)
  | k + 1 => if (best l k).2 < thr l (cdAt (k : Int)) l.length then (cdAt (k : Int), thr l (cdAt (k : Int)) l.length) else best l k
theorem best_bd (l : List Cd) : ∀ k : Nat, 0 ≤ (best l k).2 ∧ (best l k).2 ≤ l.length
  | 0 => ⟨Int.le_refl _, by simp [best]⟩
  | k + 1 => by
    have ih := best_bd l k
    have h := thr_bd l (cdAt (k : Int)) l.length
    simp only [best]
    split
    · exact h
    · exact ih
theorem best_yes {l : List Cd} {k : Nat} {t : Int} (ht : thr l (cdAt (k : Int)) l.length = t) (h : (best l k).2 < t) : best l (k + 1) = (cdAt (k : Int), t) := by
  simp only [best]
  rw [ht, if_pos h]
theorem best_no {l : List Cd} {k : Nat} {t : Int} (ht : thr l (cdAt (k : Int)) l.length = t) (h : ¬ (best l k).2 < t) : best l (k + 1) = best l k := by
  simp only [best]
  rw [ht, if_neg h]
theorem best_more {l : List Cd} : ∀ {k : Nat}, 1 < (best l k).2 ↔ ∃ j, j < k ∧ 1 < thr l (cdAt (j : Int)) l.length
  | 0 => by simp [best]
  | k + 1 => by
    have ih := best_more (l := l) (k := k)
    by_cases h : (best l k).2 < thr l (cdAt (k : Int)) l.length
    · rw [best_yes rfl h]
      constructor
      · intro h1; exact ⟨k, by omega, h1⟩
      · rintro ⟨j, hj, h1⟩
        by_cases e : j = k
        · subst e; exact h1
        · have := ih.2 ⟨j, by omega, h1⟩
          show 1 < thr l (cdAt (k : Int)) l.length
          omega
    · rw [best_no rfl h, ih]
      constructor
      · rintro ⟨j, hj, h1⟩; exact ⟨j, by omega, h1⟩
      · rintro ⟨j, hj, h1⟩
        by_cases e : j = k
        · subst e
          exact ih.1 (by omega)
        · exact ⟨j, by omega, h1⟩
theorem take_lookup {ops : Array Oper} {rest : List Oper} {o : Oper} {a : Act} {Q : Exit → Act → World → Prop} {w : World} {T : TypeId} {g : Nat} {key v : Value} (hg : o.guard = none) (m x : Operand) (hop : o.op = Op.lookup T m x false)
    (hm : a.eval m = .map (some g)) (hx : a.eval x = key) (hrun : (Instr.lookup T (.map (some g)) key false).run Try.prog w = .ok v w) (hK : wpList Try.prog ops Q rest (a.put o.dst v) w) : wpList Try.prog ops Q (o :: rest) a w := by
  refine wpList_plain hg fun K' hK' => ?_
  unfold Oper.wp
  simp [execOp, hop, hm, hx, hrun, Result.andThen]
  exact hK' _ _ hK
theorem store_c {ops : Array Oper} {rest : List Oper} {o : Oper} {a : Act} {w : World} {Q : Exit → Act → World → Prop} (hgd : o.guard = none) (x y : Operand) (ho : o.op = .store 25 x y) {g : Nat} {z : Cd} (h : Box w g z) (hx : a.eval x = .pointer (some ⟨g, 0, none⟩))
    (c : Cd) (hy : a.eval y = c.val) (hk : ∀ w', Box w' g c → w.grownBy w' (some g) → wpList Try.prog ops Q rest (a.put o.dst undef) w') : wpList Try.prog ops Q (o :: rest) a w :=
  store_vb hgd 25 x y ho (show VB w g 25 (cvx z) from h) cvx_info hx (cvx c) rfl (cvx_one c) hy hk
theorem take_c {ops : Array Oper} {rest : List Oper} {o : Oper} {a : Act} {w : World} {Q : Exit → Act → World → Prop} (hgd : o.guard = none) (x : Operand) (ho : o.op = .load 25 x) {g : Nat} {c : Cd} (h : Box w g c) (hx : a.eval x = .pointer (some ⟨g, 0, none⟩))
    (hk : wpList Try.prog ops Q rest (a.put o.dst c.val) w) : wpList Try.prog ops Q (o :: rest) a w :=
  take_vb hgd 25 x ho (show VB w g 25 (cvx c) from h) Try.underlying25 cvx_info hx hk
theorem Box.markedB {w w1 : World} {g : Nat} {x : Cd} {row : Option Nat} (h : Box w g x) (hg : w.grownBy w1 row) (h2 : row ≠ some g) : Box w1 g x := VB.marked (T := 25) (cs := cvx x) h hg h2
theorem PM.off {w w1 : World} {B g m q : Nat} {u : Value} {F : Cd → List A2} (h : PM w B g m u F) (hg : w.grownBy w1 (some q)) (hq : q < g) (hgB : g < B) : PM w1 B g m u F := by
  obtain ⟨V, h1, h2, h3, h4, h5⟩ := h
  exact ⟨V, h1.kept hg (fun e => by injection e with e; omega), fun x hx => OwnA2.off (h2 x hx) hg (by omega), h3, h4, h5⟩

set_option maxRecDepth 100000 in
set_option maxHeartbeats 8000000 in
theorem most_pairs (l : List Cd) (p : Option Addr) (n cp : Nat) (w : World) (hn : l.length = n) (hl : n ≤ 27) (hr : Rd w p (flat l)) (hok : l.all Cd.ok = true) (hs : sorted l) :
    Calls Try.prog 70 #[.slice p n cp] w fun e w' => e = .returned (.tuple #[(best l 81).1.val, .int .i64 (best l 81).2]) ∧ Below w.heap.size w w' := by
  have HN := Lib.hid hn
  have HR0 := Lib.hid hr
  have HPB := Lib.hid (fun w h => pairs_by l p n cp w hn (by omega) h hok)
  have HLn := Lib.hid (fun k (hk : k < 81) => by3_len (l := l) (c := cdAt ((k : Nat) : Int)) hs hok (cdAt_ok (by omega) (by omega)))
  have HBd := Lib.hid (best_bd l)
  have K2 : Hid (Box (w.alloc zero.obj) w.heap.size zero) := Lib.hid (Box.newAt rfl rfl)
  have HB : Hid (Below w.heap.size w (w.alloc zero.obj)) := Lib.hid ((Below.refl _ _).alloc (Nat.le_refl _) _)
  have HBe := Lib.hid (show (best l 81) = best l 81 from rfl)
  clear hn hr hok hs
  obtain ⟨R, hR⟩ : ∃ R, best l 81 = R := ⟨_, rfl⟩
  rw [hR] at HBe ⊢
  have HRe := Lib.hid hR
  clear hR HBe
  go_enter Try.func70, Try.ntmps70
  go_upto_region 1 with fail
  generalize w.alloc zero.obj = W at *
  have HWz := Lib.hid K2.out.lt
  go_wp2_with fail
  refine (HPB.out _ (HR0.out.below HB.out)).mono ?_
  rintro e w1 ⟨g, m, rfl, hPM, hgw, b⟩
  have HGw := Lib.hid (show w.heap.size < g by have := HWz.out; omega)
  have HGl := Lib.hid hPM.lt
  have Sw1 := Lib.hid b.size
  have HB := Lib.hid (chain0 (w := w) (by repeat (first | with_reducible exact Below.refl _ _ | with_reducible exact HB.out | with_reducible apply Below.drew | with_reducible apply bdN | with_reducible refine Below.alloc ?_ (by first | exact Nat.le_refl _ | with_reducible exact HB.out.size | omega | (simp; done) | (simp; omega) | (have := HB.out.size; simp at *; omega)) _ | with_reducible refine Below.setCell ?_ (by first | exact Nat.le_refl _ | with_reducible exact HB.out.size | omega | (simp; done) | (simp; omega) | (have := HB.out.size; simp at *; omega)) _)) b)
  have K2 := Lib.hid (Box.below (by repeat (first | with_reducible exact K2.out | with_reducible apply Box.drewN | with_reducible apply Box.drew | with_reducible apply Box.alloc)) b)
  clear b
  obtain ⟨V, v1, v2, v3, v4, v5⟩ := hPM
  have HPM := Lib.hid v1
  have HVf := Lib.hid (show ∀ x : Cd, x.ok = true → ∃ vp vc, V x = .slice vp (by3 l (pAll n) x).length vc from fun x hx => by
    obtain ⟨vp, vc, hv, _⟩ := (v2 x hx).form
    exact ⟨vp, vc, hv⟩)
  clear v1 v2 v3 v4 v5 hgw
  go_upto_region 3 with ((with_reducible refine store_c rfl _ _ rfl (Box.newAt (x := zero) rfl rfl) ?_ zero ?_ ?_); rfl; rfl; intro w2 hM hG)
  have b : Below w1.heap.size w1 w2 := Below.grown ((Below.refl _ _).alloc (Nat.le_refl _) _) hG (by simp) (fun k hk => by injection hk with hk; omega)
  have Sw2 := Lib.hid b.size
  have HB := Lib.hid (chain0 (w := w) (by repeat (first | with_reducible exact Below.refl _ _ | with_reducible exact HB.out | with_reducible apply Below.drew | with_reducible apply bdN | with_reducible refine Below.alloc ?_ (by first | exact Nat.le_refl _ | with_reducible exact HB.out.size | omega | (simp; done) | (simp; omega) | (have := HB.out.size; simp at *; omega)) _ | with_reducible refine Below.setCell ?_ (by first | exact Nat.le_refl _ | with_reducible exact HB.out.size | omega | (simp; done) | (simp; omega) | (have := HB.out.size; simp at *; omega)) _)) b)
  have K2 := Lib.hid (Box.below (by repeat (first | with_reducible exact K2.out | with_reducible apply Box.drewN | with_reducible apply Box.drew | with_reducible apply Box.alloc)) b)
  have HPM := Lib.hid (MapV.below (by repeat (first | with_reducible exact HPM.out | with_reducible apply MapV.drewN | with_reducible apply MapV.drew | with_reducible apply MapV.alloc)) b)
  clear b
  have K5 := Lib.hid hM
  have HGq := Lib.hid (show g < w1.heap.size from HGl.out)
  clear hM hG
  obtain ⟨q, hq⟩ : ∃ q, w1.heap.size = q := ⟨_, rfl⟩
  rw [hq] at K5 HGq
  try rw [hq]
  clear hq
  go_wp2_with fail
  go_loopw [6, 7, 8, 9, 13] (fun o _ _ _ i wr => ∃ k : Nat, k ≤ 81 ∧ i = .int .i64 k ∧ o = .int .i64 (best l k).2 ∧ Hid (Box wr q (best l k).1) ∧ Hid (Box wr w.heap.size zero) ∧ Hid (MapV wr g m V) ∧ Hid (Below w.heap.size w wr)) (fun _ _ _ _ i _ => 81 - (intOf i).toNat)
  case atStart => exact ⟨0, by omega, rfl, rfl, K5, K2, HPM, HB⟩
  case round =>
    clear K5 K2 HPM HB
    obtain ⟨k, hk, rfl, rfl, K5, K2, HPM, HB⟩ := hrel
    obtain ⟨b0, b1⟩ := HBd.out k
    have m0 : (0 : Int) ≤ (k : Int) := by omega
    by_cases hlt : k < 81
    · have m1 : (k : Int) < 81 := by omega
      have HCo := Lib.hid (cdAt_ok (n := (k : Int)) m0 (by omega))
      have HCa := Lib.hid (fun w => card_of (k : Int) w m0 (by omega))
      obtain ⟨t, ht⟩ : ∃ t, thr l (cdAt (k : Int)) l.length = t := ⟨_, rfl⟩
      have hlen := HLn.out k hlt
      rw [ht, HN.out] at hlen
      have HYes := Lib.hid (best_yes (k := k) ht)
      have HNo := Lib.hid (best_no (k := k) ht)
      have hnn := HN.out
      obtain ⟨c, hc⟩ : ∃ c, cdAt (k : Int) = c := ⟨_, rfl⟩
      rw [hc] at HCo HCa hlen HYes
      clear ht hc
      generalize best l k = bb at *
      obtain ⟨bc, bt⟩ := bb
      dsimp only at b0 b1 K5 HYes HNo ⊢
      go_wp2_with fail
      refine (HCa.out _).mono ?_
      rintro e w4 ⟨rfl, b⟩
      have Sw4 := Lib.hid b.size
      have HB := Lib.hid (chain0 (w := w) (by repeat (first | with_reducible exact Below.refl _ _ | with_reducible exact HB.out | with_reducible apply Below.drew | with_reducible apply bdN | with_reducible refine Below.alloc ?_ (by first | exact Nat.le_refl _ | with_reducible exact HB.out.size | omega | (simp; done) | (simp; omega) | (have := HB.out.size; simp at *; omega)) _ | with_reducible refine Below.setCell ?_ (by first | exact Nat.le_refl _ | with_reducible exact HB.out.size | omega | (simp; done) | (simp; omega) | (have := HB.out.size; simp at *; omega)) _)) b)
      have K5 := Lib.hid (Box.below (by repeat (first | with_reducible exact K5.out | with_reducible apply Box.drewN | with_reducible apply Box.drew | with_reducible apply Box.alloc)) b)
      have K2 := Lib.hid (Box.below (by repeat (first | with_reducible exact K2.out | with_reducible apply Box.drewN | with_reducible apply Box.drew | with_reducible apply Box.alloc)) b)
      have HPM := Lib.hid (MapV.below (by repeat (first | with_reducible exact HPM.out | with_reducible apply MapV.drewN | with_reducible apply MapV.drew | with_reducible apply MapV.alloc)) b)
      clear b
      go_upto_region 7 with fail
      obtain ⟨w5, ew, b⟩ : ∃ wOPN : World, wOPN = (w4.alloc c.obj) ∧ Below ((w4.alloc c.obj)).heap.size ((w4.alloc c.obj)) wOPN := ⟨_, rfl, Below.refl _ _⟩
      rw [← ew]
      clear ew
      have Sw5 := Lib.hid b.size
      have HB := Lib.hid (chain0 (w := w) (by repeat (first | with_reducible exact Below.refl _ _ | with_reducible exact HB.out | with_reducible apply Below.drew | with_reducible apply bdN | with_reducible refine Below.alloc ?_ (by first | exact Nat.le_refl _ | with_reducible exact HB.out.size | omega | (simp; done) | (simp; omega) | (have := HB.out.size; simp at *; omega)) _ | with_reducible refine Below.setCell ?_ (by first | exact Nat.le_refl _ | with_reducible exact HB.out.size | omega | (simp; done) | (simp; omega) | (have := HB.out.size; simp at *; omega)) _)) b)
      have K5 := Lib.hid (Box.below (by repeat (first | with_reducible exact K5.out | with_reducible apply Box.drewN | with_reducible apply Box.drew | with_reducible apply Box.alloc)) b)
      have K2 := Lib.hid (Box.below (by repeat (first | with_reducible exact K2.out | with_reducible apply Box.drewN | with_reducible apply Box.drew | with_reducible apply Box.alloc)) b)
      have HPM := Lib.hid (MapV.below (by repeat (first | with_reducible exact HPM.out | with_reducible apply MapV.drewN | with_reducible apply MapV.drew | with_reducible apply MapV.alloc)) b)
      have K8 : Hid (Box _ (w4.heap.size) (c)) := Lib.hid (Box.below (by repeat (first | with_reducible exact K8.out | with_reducible apply Box.drewN | with_reducible apply Box.drew | (with_reducible refine Box.newAt ?_ ?_ <;> first | (simp; done) | rfl) | with_reducible apply Box.alloc)) b)
      try clear k8a k8b k8c k8d k8z
      have k8z := K8.out.lt
      obtain ⟨k8a, k8b, k8c, k8d⟩ := K8.out.cell
      clear b
      obtain ⟨vp, vc, hv⟩ := HVf.out c HCo.out
      have hrun := mapV_look HPM.out HCo.out
      rw [hv] at hrun
      rw [← hlen] at HYes HNo
      have hll : (by3 l (pAll n) c).length ≤ 1000000 := by
        have h1 := pAll_len n
        have h2 : n * n ≤ 27 * 27 := Nat.mul_le_mul (by omega) (by omega)
        exact Nat.le_trans (List.length_filter_le _ _) (by omega)
      clear hv hlen
      generalize (by3 l (pAll n) c).length = L at *
      go_upto_region 8 with ((with_reducible refine take_lookup rfl _ _ rfl ?_ ?_ hrun ?_); rfl; rfl)
      clear hrun
      by_cases hcmp : bt < (L : Int)
      · have HF := Lib.hid (HYes.out hcmp)
        go_upto_region 10 with (first | ((with_reducible refine take_c rfl _ rfl K8.out ?_ ?_); rfl) | ((with_reducible refine store_c rfl _ _ rfl K5.out ?_ c ?_ ?_); rfl; rfl; intro w6 hM hG))
        have b : Below w.heap.size w5 w6 := (Below.refl _ _).grown hG (by have := HB.out.size; omega) (fun k hk => by injection hk with hk; have := HGw.out; have := HGq.out; omega)
        have HB6 := Lib.hid (HB.out.trans b)
        have K26 := Lib.hid (Box.markedB K2.out hG (fun e => by injection e with e; have := HGw.out; have := HGq.out; omega))
        have HM6 := Lib.hid (MapV.kept HPM.out hG (fun e => by injection e with e; have := HGq.out; omega))
        have K56 : Hid (Box w6 q (best l (k + 1)).1) := Lib.hid (by rw [HF.out]; exact hM)
        clear hM hG b
        go_wp2_with fail
        go_roundw
        case rel => exact ⟨k + 1, by omega, by go_num, by rw [HF.out], K56, K26, HM6, HB6⟩
        case measure => simp [intOf]; omega
      · have HF := Lib.hid (HNo.out (by omega))
        go_wp2_with fail
        go_roundw
        case rel => exact ⟨k + 1, by omega, by go_num, by rw [HF.out], by rw [HF.out]; exact K5, K2, HPM, HB⟩
        case measure => simp [intOf]; omega
    · obtain rfl : k = 81 := by omega
      rw [HRe.out] at K5 ⊢
      go_wp2_with (first | ((with_reducible refine take_c rfl _ rfl K5.out ?_ ?_); rfl) | ((with_reducible refine store_c rfl _ _ rfl K2.out ?_ R.1 ?_ ?_); rfl; rfl; intro w7 hM hG))
      try simp only [Exit.inBlock, Exit.then]
      refine bodyPost_ret (res_vb2 Try.results70 rfl (show VB w7 w.heap.size 25 (cvx R.1) from hM) Try.underlying25 cvx_info) rfl ?_
      exact ⟨rfl, HB.out.grown hG HB.out.size (fun k hk => by injection hk with hk; omega)⟩
end Go.Proofs.Ytjmlefcmhjodeaa.others
