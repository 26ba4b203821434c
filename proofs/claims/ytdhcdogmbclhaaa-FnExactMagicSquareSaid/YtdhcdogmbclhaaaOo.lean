/- SpacesWith: the model's. -/
import Derived.Test.YtdhcdogmbclhaaaOm
namespace Go.Proofs.Ytdhcdogmbclhaaa.planes
open Go.RowKit
open cards reg
set_option linter.unusedVariables false

theorem l1_mostP (a b : Int) (w : World) :
    Calls Try.prog 72 #[.int .i64 a, .int .i64 b] w fun e w' => e = .returned (.int .i64 (mx a b)) ∧ Below w.heap.size w w' := by
  by_cases h : b < a
  · have HT := Lib.hid (show mx a b = a by unfold mx; rw [if_pos h])
    go_enter Try.func72, Try.ntmps72
    go_wp2_with fail
    go_ret
    exact ⟨ret_int HT.out.symm, Below.refl _ _⟩
  · have HT := Lib.hid (show mx a b = b by unfold mx; rw [if_neg h])
    go_enter Try.func72, Try.ntmps72
    go_wp2_with fail
    go_ret
    exact ⟨ret_int HT.out.symm, Below.refl _ _⟩
section
variable {ops : Array Oper} {Q : Exit → Act → World → Prop} {n0 : Nat} {obj : Obj} {fin : Act → (World → Prop) → Prop} {S : World → Prop}
theorem chain_int (d : Tmp) {i : Nat} {r : List (Bool × Nat)} {a : Act} {I : World → Prop} {o : Oper} (ho : ops[i]? = some o) (hd : o.dst = some d) (hg : o.guard = none) {p : Operand} (hop : o.op = .load 3 p) {g j : Nat} {x : Int}
    (hp : a.eval p = .pointer (some ⟨g, j, none⟩)) (hc : ∀ w, S w → w.cell? ⟨g, j, none⟩ = some (.int .i64 x))
    (hr : chainA Try.prog ops S n0 obj fin r (a.put (some d) (.int .i64 x)) I) : chainA Try.prog ops S n0 obj fin ((true, i) :: r) a I :=
  ⟨o, .int .i64 x, ho, .inl ⟨wanted_of hg, fun w hw => exec_loadI hop hp (hc w hw)⟩, hd ▸ hr⟩
end
theorem exec_eqlI {a : Act} {o : Oper} {p q : Operand} {s : TypeId} {u v : Int} (ho : o.op = .binOp .eql 3 p q s) (hp : a.eval p = .int .i64 u) (hq : a.eval q = .int .i64 v) (w : World) :
    (execOp a.eval o).run Try.prog w = .ok (.value (.bool (u == v))) w := by
  unfold execOp
  rw [ho]
  simp only [hp, hq]
  go_simp
theorem cds_filter_yes {P : Cd → Bool} {k : Nat} (hw : wtB (cdAt (k : Int)) = true) (h : P (cdAt (k : Int)) = true) : (cdsOf wtB (k + 1)).filter P = (cdsOf wtB k).filter P ++ [cdAt (k : Int)] := by
  rw [cdsOf_yes hw, List.filter_append]; simp [h]
theorem cds_filter_no {P : Cd → Bool} {k : Nat} (hw : wtB (cdAt (k : Int)) = true) (h : P (cdAt (k : Int)) = false) : (cdsOf wtB (k + 1)).filter P = (cdsOf wtB k).filter P := by
  rw [cdsOf_yes hw, List.filter_append]; simp [h]

set_option maxRecDepth 100000 in
set_option maxHeartbeats 8000000 in
theorem spec_sw (l : List Cd) (p : Option Addr) (n cp : Nat) (w : World) (hn : l.length = n) (hl : n ≤ 1000000000) (hr : Rd w p (flat l)) :
    Calls Try.prog 46 #[.slice p n cp] w fun e w' => ∃ u, e = .returned (.tuple #[u, .bool (swR l).2]) ∧ Own w' w.heap.size u (swR l).1 ∧ Below w.heap.size w w' := by
  have HN := Lib.hid hn
  have HI := Lib.hid (fun w hr => l2_hand l p n cp w hn hl hr)
  have HR0 := Lib.hid hr
  have HO := Lib.hid (Own.empty w w.heap.size (Nat.le_refl _))
  have HB : Hid (Below w.heap.size w (w.alloc (.cells #[] 33))) := Lib.hid ((Below.refl _ _).alloc (Nat.le_refl _) _)
  clear hr hn
  cases hh : handB l
  · have HT := Lib.hid (show swR l = ([], false) by unfold swR; rw [if_neg (by simp [hh])])
    rw [hh] at HI
    clear hh
    go_enter Try.func46, Try.ntmps46
    go_wp2_with fail
    refine (HI.out _ (HR0.out.below HB.out)).mono ?_
    rintro e w1 ⟨rfl, b⟩
    have HO := Lib.hid (HO.out.below b)
    have HB := Lib.hid (chain0 HB.out b)
    clear b
    go_wp2_with fail
    go_ret2
    exact ⟨_, ret_two (by rw [HT.out]), by rw [HT.out]; exact HO.out, HB.out⟩
  · have HT := Lib.hid (show swR l = (wts.filter (eqv l), true) by unfold swR; rw [if_pos hh])
    have HH := Lib.hid (handB_true.1 hh)
    rw [hh] at HI
    clear hh
    go_enter Try.func46, Try.ntmps46
    go_wp2_with fail
    refine (HI.out _ (HR0.out.below HB.out)).mono ?_
    rintro e w1 ⟨rfl, b⟩
    have HO := Lib.hid (HO.out.below b)
    have HB := Lib.hid (chain0 HB.out b)
    clear b
    go_wp2_with fail
    go_loopw [4, 5] (fun o iv wr => ∃ k : Nat, k ≤ 81 ∧ iv = .int .i64 k ∧ Hid (Own wr w.heap.size o ((cdsOf wtB k).filter (eqv l))) ∧ Hid (Below w.heap.size w wr)) (fun _ iv _ => 81 - (intOf iv).toNat)
    case atStart => exact ⟨0, Nat.zero_le _, rfl, HO, HB⟩
    case round =>
      clear HO HB
      obtain ⟨k, hk, rfl, HO, HB⟩ := hrel
      by_cases hkt : k < 81
      · have m0 : (0 : Int) ≤ (k : Int) := by omega
        have m1 : (k : Int) < 81 := by omega
        have HC := Lib.hid (cdAt_ok (n := (k : Int)) m0 (by omega))
        have HL := Lib.hid (fun w => l2_atP (k : Int) w m0 (by omega))
        have HY := Lib.hid (fun h g => cds_filter_yes (P := eqv l) (k := k) h g)
        have HNo := Lib.hid (fun h g => cds_filter_no (P := eqv l) (k := k) h g)
        have HNw := Lib.hid (fun h => congrArg (List.filter (eqv l)) (cdsOf_no (P := wtB) (k := k) h))
        have HLn : Hid (((cdsOf wtB k).filter (eqv l)).length ≤ 81) := Lib.hid (Nat.le_trans (List.length_filter_le _ _) (Nat.le_trans (cdsOf_len _ _) (by omega)))
        obtain ⟨x, hx⟩ : ∃ x, cdAt (k : Int) = x := ⟨_, rfl⟩
        rw [hx] at HC HL HY HNo HNw
        clear hx
        have HW := Lib.hid (fun w => l6_weight x w)
        have HEv := Lib.hid (eqv_split l x)
        go_wp2_with fail
        refine ((HL.out _)).mono ?_
        rintro e w2 ⟨rfl, b⟩
        have Sw2 := Lib.hid b.size
        have HB := Lib.hid (chain0 (w := w) (by repeat (first | with_reducible exact Below.refl _ _ | with_reducible exact HB.out | with_reducible apply Below.drew | with_reducible apply bdN | with_reducible refine Below.alloc ?_ (by first | exact Nat.le_refl _ | with_reducible exact HB.out.size | omega | (simp; done) | (simp; omega) | (have := HB.out.size; simp at *; omega)) _ | with_reducible refine Below.setCell ?_ (by first | exact Nat.le_refl _ | with_reducible exact HB.out.size | omega | (simp; done) | (simp; omega) | (have := HB.out.size; simp at *; omega)) _)) b)
        have HO := Lib.hid (Own.below (by repeat (first | with_reducible exact HO.out | with_reducible apply Own.drewN | with_reducible apply Own.drew | with_reducible apply Own.alloc)) b)
        clear b
        have K1 : Hid (Box (w2.alloc x.obj) w2.heap.size x) := Lib.hid (Box.newAt rfl rfl)
        have HO := Lib.hid (HO.out.alloc x.obj)
        have HB := Lib.hid (HB.out.alloc HB.out.size x.obj)
        go_upto_region 8 with fail
        obtain ⟨gx, hgx⟩ : ∃ gx, w2.heap.size = gx := ⟨_, rfl⟩
        rw [hgx] at K1
        try rw [hgx]
        clear hgx
        generalize w2.alloc x.obj = W2 at *
        obtain ⟨k1a, k1b, k1c, k1d⟩ := K1.out.cell
        have k1z := K1.out.lt
        cases hw : wtB x
        · have HE := Lib.hid (HNw.out hw)
          rw [hw] at HW
          clear hw HY HNo HNw
          go_wp2_with fail
          refine ((HW.out _)).mono ?_
          rintro e w3 ⟨rfl, b⟩
          have Sw3 := Lib.hid b.size
          have HB := Lib.hid (chain0 (w := w) (by repeat (first | with_reducible exact Below.refl _ _ | with_reducible exact HB.out | with_reducible apply Below.drew | with_reducible apply bdN | with_reducible refine Below.alloc ?_ (by first | exact Nat.le_refl _ | with_reducible exact HB.out.size | omega | (simp; done) | (simp; omega) | (have := HB.out.size; simp at *; omega)) _ | with_reducible refine Below.setCell ?_ (by first | exact Nat.le_refl _ | with_reducible exact HB.out.size | omega | (simp; done) | (simp; omega) | (have := HB.out.size; simp at *; omega)) _)) b)
          have HO := Lib.hid (Own.below (by repeat (first | with_reducible exact HO.out | with_reducible apply Own.drewN | with_reducible apply Own.drew | with_reducible apply Own.alloc)) b)
          have K1 : Hid (Box _ (gx) (x)) := Lib.hid (Box.below (by repeat (first | with_reducible exact K1.out | with_reducible apply Box.drewN | with_reducible apply Box.drew | (with_reducible refine Box.newAt ?_ ?_ <;> first | (simp; done) | rfl) | with_reducible apply Box.alloc)) b)
          try clear k1a k1b k1c k1d k1z
          have k1z := K1.out.lt
          obtain ⟨k1a, k1b, k1c, k1d⟩ := K1.out.cell
          clear b
          go_wp2_with fail
          go_roundw
          case rel => exact ⟨k + 1, by omega, by go_num, by rw [HE.out]; exact HO, HB⟩
          case measure => simp [intOf]; omega
        · have HYw := Lib.hid (fun g => HY.out hw g)
          have HNy := Lib.hid (fun g => HNo.out hw g)
          rw [hw] at HW
          clear hw HY HNo HNw
          go_wp2_with fail
          refine ((HW.out _)).mono ?_
          rintro e w3 ⟨rfl, b⟩
          have Sw3 := Lib.hid b.size
          have HB := Lib.hid (chain0 (w := w) (by repeat (first | with_reducible exact Below.refl _ _ | with_reducible exact HB.out | with_reducible apply Below.drew | with_reducible apply bdN | with_reducible refine Below.alloc ?_ (by first | exact Nat.le_refl _ | with_reducible exact HB.out.size | omega | (simp; done) | (simp; omega) | (have := HB.out.size; simp at *; omega)) _ | with_reducible refine Below.setCell ?_ (by first | exact Nat.le_refl _ | with_reducible exact HB.out.size | omega | (simp; done) | (simp; omega) | (have := HB.out.size; simp at *; omega)) _)) b)
          have HO := Lib.hid (Own.below (by repeat (first | with_reducible exact HO.out | with_reducible apply Own.drewN | with_reducible apply Own.drew | with_reducible apply Own.alloc)) b)
          have K1 : Hid (Box _ (gx) (x)) := Lib.hid (Box.below (by repeat (first | with_reducible exact K1.out | with_reducible apply Box.drewN | with_reducible apply Box.drew | (with_reducible refine Box.newAt ?_ ?_ <;> first | (simp; done) | rfl) | with_reducible apply Box.alloc)) b)
          try clear k1a k1b k1c k1d k1z
          have k1z := K1.out.lt
          obtain ⟨k1a, k1b, k1c, k1d⟩ := K1.out.cell
          clear b
          go_wp2_with fail
          refine ((l6_split l x p n cp _ HN.out (by have := HH.out.1; have := HN.out; omega) (HR0.out.below HB.out) HH.out.2.1 HC.out)).mono ?_
          rintro e w4 ⟨rfl, b⟩
          have Sw4 := Lib.hid b.size
          have HB := Lib.hid (chain0 (w := w) (by repeat (first | with_reducible exact Below.refl _ _ | with_reducible exact HB.out | with_reducible apply Below.drew | with_reducible apply bdN | with_reducible refine Below.alloc ?_ (by first | exact Nat.le_refl _ | with_reducible exact HB.out.size | omega | (simp; done) | (simp; omega) | (have := HB.out.size; simp at *; omega)) _ | with_reducible refine Below.setCell ?_ (by first | exact Nat.le_refl _ | with_reducible exact HB.out.size | omega | (simp; done) | (simp; omega) | (have := HB.out.size; simp at *; omega)) _)) b)
          have HO := Lib.hid (Own.below (by repeat (first | with_reducible exact HO.out | with_reducible apply Own.drewN | with_reducible apply Own.drew | with_reducible apply Own.alloc)) b)
          have K1 : Hid (Box _ (gx) (x)) := Lib.hid (Box.below (by repeat (first | with_reducible exact K1.out | with_reducible apply Box.drewN | with_reducible apply Box.drew | (with_reducible refine Box.newAt ?_ ?_ <;> first | (simp; done) | rfl) | with_reducible apply Box.alloc)) b)
          try clear k1a k1b k1c k1d k1z
          have k1z := K1.out.lt
          obtain ⟨k1a, k1b, k1c, k1d⟩ := K1.out.cell
          clear b
          obtain ⟨f, hf⟩ : ∃ f, splitF x l = f := ⟨_, rfl⟩
          rw [hf] at HEv ⊢
          clear hf
          have KV : Hid (VB (w4.alloc (.cells (q3 f) 46)) w4.heap.size 46 (q3 f)) := Lib.hid (VB.newAt rfl rfl)
          have HO := Lib.hid (HO.out.alloc (.cells (q3 f) 46))
          have HB := Lib.hid (HB.out.alloc HB.out.size (.cells (q3 f) 46))
          have K1 := Lib.hid (K1.out.alloc (.cells (q3 f) 46))
          clear k1a k1b k1c k1d k1z
          go_upto_region 10 with fail
          obtain ⟨gv, hgv⟩ : ∃ gv, w4.heap.size = gv := ⟨_, rfl⟩
          rw [hgv] at KV
          try rw [hgv]
          clear hgv
          generalize w4.alloc (.cells (q3 f) 46) = W4 at *
          obtain ⟨bb, hbb⟩ : ∃ bb, (mx (f 0) (mx (f 1) (f 2)) == (n : Int)) = bb := ⟨_, rfl⟩
          have HBB : Hid (bb = eqv l x) := Lib.hid (by rw [← hbb, ← HEv.out, HN.out]; rw [Bool.eq_iff_iff]; simp)
          have Hbb := Lib.hid hbb
          clear hbb
          refine region_BI [(true, 0), (true, 1), (true, 2), (true, 3), (true, 4), (true, 5), (true, 8), (true, 9), (false, 6), (false, 7), (true, 10)] (by kernel_rfl) rfl (by kernel_rfl) ?_
          refine chain_pure 25 (v := .pointer (some ⟨gv, 0, none⟩)) rfl rfl rfl (exec_index3 (N := 0) (by omega) rfl (by kernel_rfl) (by kernel_rfl)) ?_
          refine chain_int 26 rfl rfl rfl rfl (by kernel_rfl) (fun w' h => (KV.out.below h).at_ (q3_at f (j := 0) (by omega))) ?_
          refine chain_pure 27 (v := .pointer (some ⟨gv, 1, none⟩)) rfl rfl rfl (exec_index3 (N := 1) (by omega) rfl (by kernel_rfl) (by kernel_rfl)) ?_
          refine chain_int 28 rfl rfl rfl rfl (by kernel_rfl) (fun w' h => (KV.out.below h).at_ (q3_at f (j := 1) (by omega))) ?_
          refine chain_pure 29 (v := .pointer (some ⟨gv, 2, none⟩)) rfl rfl rfl (exec_index3 (N := 2) (by omega) rfl (by kernel_rfl) (by kernel_rfl)) ?_
          refine chain_int 30 rfl rfl rfl rfl (by kernel_rfl) (fun w' h => (KV.out.below h).at_ (q3_at f (j := 2) (by omega))) ?_
          refine chain_pure 33 (v := .slice p n cp) rfl rfl rfl (fun w => by kernel_rfl) ?_
          refine chain_pure 34 (v := .int .i64 n) rfl rfl rfl (fun w => by kernel_rfl) ?_
          refine chain_call 31 rfl rfl rfl (fun w => by kernel_rfl) (fun w0 h0 => l1_mostP (f 1) (f 2) w0) ?_
          refine chain_call 32 rfl rfl rfl (fun w => by kernel_rfl) (fun w0 h0 => l1_mostP (f 0) (mx (f 1) (f 2)) w0) ?_
          refine chain_pure 35 (v := .bool bb) rfl rfl rfl (fun w => by rw [exec_eqlI rfl (by kernel_rfl) (by kernel_rfl) w, Hbb.out]) ?_
          intro w5 b5
          simp only [Act.put, List.setIfInBounds_toArray, List.set_cons_zero, List.set_cons_succ]
          have HB := Lib.hid (chain0 HB.out b5)
          have HO := Lib.hid (HO.out.below b5)
          have K1 := Lib.hid (K1.out.below b5)
          clear b5 KV
          cases hbv : bb
          · have HE := Lib.hid (HNy.out (by rw [← HBB.out]; exact hbv))
            clear HBB Hbb HEv
            go_wp2_with fail
            go_roundw
            case rel => exact ⟨k + 1, by omega, by go_num, by rw [HE.out]; exact HO, HB⟩
            case measure => simp [intOf]; omega
          · have HE := Lib.hid (HYw.out (by rw [← HBB.out]; exact hbv))
            clear HBB Hbb HEv
            obtain ⟨k1a, k1b, k1c, k1d⟩ := K1.out.cell
            have k1z := K1.out.lt
            go_wp2_with (at_builtin; refine append_cd rfl (.tmp 36) (.tmp 38) rfl w.heap.size _ ((cdsOf wtB k).filter (eqv l)) x _ _ rfl rfl rfl HO.out (by have := HLn.out; omega) HB.out.size ?_; intro v1 w6 hO1 hB1)
            rw [← HE.out] at hO1
            go_roundw
            case rel => exact ⟨k + 1, by omega, by go_num, hO1, HB.out.trans hB1⟩
            case measure => simp [intOf]; omega
      · obtain rfl : k = 81 := by omega
        have HO2 : Hid (Own wr w.heap.size _ (wts.filter (eqv l))) := HO
        go_wp2_with fail
        go_ret2
        exact ⟨_, ret_two (by rw [HT.out]), by rw [HT.out]; exact HO2.out, HB.out⟩
end Go.Proofs.Ytdhcdogmbclhaaa.planes
