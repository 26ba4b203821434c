/- Maps: CycleCounts, the program's and the model's. -/
import Derived.Test.YtngfdfgeoieebaaCy
import Derived.IntWalk
namespace Go.Proofs.Ytngfdfgeoieebaa.maps
open Go.RowKit
open cards reg
set_option linter.unusedVariables false
theorem exec_index19 {N : Nat} (hN : N < 19) {a : Act} {o : Oper} {p q : Operand} (ho : o.op = .indexAddr 57 p q) {g : Nat} (hp : a.eval p = .pointer (some ⟨g, 0, none⟩)) (hq : a.eval q = .int .i64 N) (w : World) :
    (execOp a.eval o).run Try.prog w = .ok (.value (.pointer (some ⟨g, N, none⟩))) w := by
  have h0 : (0 : Int) ≤ (N : Int) := by omega
  have h1 : (N : Int) < 19 := by omega
  unfold execOp
  rw [ho]
  simp only [hp, hq]
  go_simp
theorem exec_add1 {v : Int} (hv : 0 ≤ v ∧ v ≤ 1000) {a : Act} {o : Oper} {p : Operand} {s : TypeId} (ho : o.op = .binOp .add 3 p (.const (.int .i64 1)) s) (hp : a.eval p = .int .i64 v) (w : World) :
    (execOp a.eval o).run Try.prog w = .ok (.value (.int .i64 (v + 1))) w := by
  have h0 : (0 : Int) ≤ v := by omega
  have h1 : v ≤ 1000 := by omega
  unfold execOp
  rw [ho]
  simp only [hp]
  go_simp
  exact IntWalk.i64_in _ (by omega)
theorem exec_storeI {a : Act} {o : Oper} {p q : Operand} (ho : o.op = .store 3 p q) {g j : Nat} {x v : Int} (hp : a.eval p = .pointer (some ⟨g, j, none⟩)) (hq : a.eval q = .int .i64 v) {w : World} (hc : w.cell? ⟨g, j, none⟩ = some (.int .i64 x)) (hf : w.frozen? ⟨g, j, none⟩ = false) :
    (execOp a.eval o).run Try.prog w = .ok .skip (w.setCell ⟨g, j, none⟩ (.int .i64 v)) := by
  unfold execOp
  rw [ho]
  simp only [hp, hq]
  go_simp
theorem exec_loadI {a : Act} {o : Oper} {p : Operand} (ho : o.op = .load 3 p) {g j : Nat} {x : Int} (hp : a.eval p = .pointer (some ⟨g, j, none⟩)) {w : World} (hc : w.cell? ⟨g, j, none⟩ = some (.int .i64 x)) :
    (execOp a.eval o).run Try.prog w = .ok (.value (.int .i64 x)) w := by
  unfold execOp
  rw [ho]
  simp only [hp]
  go_simp
/-- A number is read out of a cell, as an operation that is carried out. -/
theorem chain_loadI {ops : Array Oper} {S I : World → Prop} {n0 : Nat} {obj : Obj} {fin : Act → (World → Prop) → Prop} (d : Tmp) {i : Nat} {r : List (Bool × Nat)} {a : Act} {o : Oper} {p : Operand} {g j : Nat} {x : Int} (ho : ops[i]? = some o) (hd : o.dst = some d) (hg : o.guard = none) (hop : o.op = .load 3 p)
    (hp : a.eval p = .pointer (some ⟨g, j, none⟩)) (hc : ∀ w, I w → w.cell? ⟨g, j, none⟩ = some (.int .i64 x)) (hS : ∀ w, I w → S w) (hn : ∀ w, I w → n0 ≤ w.heap.size) (hal : ∀ w, I w → I (w.alloc obj))
    (hr : chainA Try.prog ops S n0 obj fin r (a.put (some d) (.int .i64 x)) I) : chainA Try.prog ops S n0 obj fin ((false, i) :: r) a I :=
  ⟨o, ho, hg, fun w hI => by
    rw [exec_loadI hop hp (hc w hI)]
    exact ⟨Below.refl _ _, I, ⟨hS, hn, hal⟩, hI, hd ▸ hr⟩⟩

set_option maxRecDepth 100000 in
set_option maxHeartbeats 4000000 in
theorem impl_cyc (m : Mp) (w : World) :
    Calls Try.prog 47 #[m.val] w fun e w' => e = .returned (.tuple #[.agg (cnt (cycR m).1), .bool (cycR m).2]) ∧ Below w.heap.size w w' := by
  have HI := Lib.hid (fun w => is_map m w)
  have K0 : Hid (MBox ((w.alloc (Mv.obj ⟨28, m⟩)).alloc (.cells (cnt zeroC) 57)) w.heap.size ⟨28, m⟩) := Lib.hid ((MBox.newAt rfl rfl).alloc _)
  have K1 : Hid (CBox ((w.alloc (Mv.obj ⟨28, m⟩)).alloc (.cells (cnt zeroC) 57)) (w.heap.size + 1) zeroC) := Lib.hid (CBox.newAt (by simp) rfl)
  have HB : Hid (Below w.heap.size w ((w.alloc (Mv.obj ⟨28, m⟩)).alloc (.cells (cnt zeroC) 57))) := Lib.hid (((Below.refl _ _).alloc (Nat.le_refl _) _).alloc (by simp) _)
  go_enter Try.func47, Try.ntmps47
  go_upto_region 1 with fail
  generalize ((w.alloc (Mv.obj ⟨28, m⟩)).alloc (.cells (cnt zeroC) 57)) = W at *
  have K2 : Hid (CBox (W.alloc (.cells (cnt zeroC) 57)) W.heap.size zeroC) := Lib.hid (CBox.newAt rfl rfl)
  have k1z := K1.out.lt
  have K0x := Lib.hid (K0.out.alloc (.cells (cnt zeroC) 57))
  have K1x := Lib.hid (K1.out.alloc (.cells (cnt zeroC) 57))
  have HBx := Lib.hid (HB.out.alloc HB.out.size (.cells (cnt zeroC) 57))
  clear K0 K1 HB
  obtain ⟨g, hg⟩ : ∃ g, W.heap.size = g := ⟨_, rfl⟩
  have HG := Lib.hid hg
  rw [hg] at K2 k1z
  clear hg
  go_upto_region 2 with ((with_reducible refine store_cnt rfl _ _ rfl (CBox.newAt (f := zeroC) rfl rfl) ?_ zeroC ?_ ?_); rfl; rfl; intro w6 hM hG)
  rw [HG.out] at hM hG
  have HB := Lib.hid (HBx.out.grown hG HBx.out.size (fun k hk => by injection hk with hk; omega))
  have K0 := Lib.hid (K0x.out.marked hG (fun k hk => by injection hk with hk; omega))
  have K1 := Lib.hid (CBox.marked K1x.out hG (fun e => by injection e with e; omega))
  have K2 := Lib.hid hM
  clear hM hG K0x K1x HBx
  try rw [HG.out]
  cases hm : m.ok
  · have HT := Lib.hid (show cycR m = (zeroC, false) by unfold cycR; rw [if_neg (by simp [hm])])
    rw [hm] at HI
    clear hm
    go_wp2_with ((with_reducible refine take_map rfl _ rfl K0.out ?_ ?_); rfl)
    refine (HI.out _).mono ?_
    rintro e w1 ⟨rfl, q⟩
    have HB := Lib.hid (chain0 HB.out q)
    have K1 := Lib.hid (CBox.below K1.out q)
    have K2 := Lib.hid (CBox.below K2.out q)
    clear q
    go_wp2_with (first | ((with_reducible refine take_cnt rfl _ rfl K2.out ?_ ?_); rfl) | ((with_reducible refine store_cnt rfl _ _ rfl K1.out ?_ zeroC ?_ ?_); rfl; rfl; intro w7 hM hG))
    try simp only [Exit.inBlock, Exit.then]
    refine bodyPost_ret (res_cnt2 Try.results47 rfl hM) rfl ?_
    exact ⟨by rw [HT.out]; rfl, HB.out.grown hG HB.out.size (fun k hk => by injection hk with hk; omega)⟩
  · have HT := Lib.hid (show cycR m = (cyc m 81, true) by unfold cycR; rw [if_pos hm])
    have HM := Lib.hid hm
    rw [hm] at HI
    clear hm
    go_wp2_with ((with_reducible refine take_map rfl _ rfl K0.out ?_ ?_); rfl)
    refine (HI.out _).mono ?_
    rintro e w1 ⟨rfl, q⟩
    have HB := Lib.hid (chain0 HB.out q)
    have K0 := Lib.hid (MBox.below K0.out q)
    have K1 := Lib.hid (CBox.below K1.out q)
    have K2 := Lib.hid (CBox.below K2.out q)
    clear q
    go_wp2_with fail
    go_loopw [11] (fun i wr => ∃ k : Nat, k ≤ 81 ∧ i = .int .i64 k ∧ Hid (CBox wr g (cyc m k)) ∧ Hid (Below w.heap.size w wr) ∧ Hid (MBox wr w.heap.size ⟨28, m⟩) ∧ Hid (CBox wr (w.heap.size + 1) zeroC)) (fun i _ => 81 - (intOf i).toNat)
    case atStart => exact ⟨0, Nat.zero_le _, rfl, K2, HB, K0, K1⟩
    case round =>
      clear K0 K1 K2 HB
      obtain ⟨k, hk, rfl, K2, HB, K0, K1⟩ := hrel
      by_cases hlt : k < 81
      · have m0 : (0 : Int) ≤ (k : Int) := by omega
        have m1 : (k : Int) < 81 := by omega
        have HC := Lib.hid (cdAt_okM (n := (k : Int)) m0 (by omega))
        have HL := Lib.hid (fun w => card_of (k : Int) w m0 (by omega))
        obtain ⟨N, hN⟩ : ∃ N, orbN m (cdAt (k : Int)) = N := ⟨_, rfl⟩
        have hN19 : N < 19 := by have := (orbN_spec HM.out HC.out).2.1; omega
        have hbd := cyc_bd m k N
        have HCy := Lib.hid (show cyc m (k + 1) = upd (cyc m k) N (cyc m k N + 1) by show upd _ (orbN m (cdAt (k : Int))) _ = _; rw [hN])
        have HNo := Lib.hid hN
        obtain ⟨x, hx⟩ : ∃ x, cdAt (k : Int) = x := ⟨_, rfl⟩
        rw [hx] at HC HL HNo
        clear hx hN
        obtain ⟨f, hf⟩ : ∃ f, cyc m k = f := ⟨_, rfl⟩
        rw [hf] at K2 hbd HCy
        clear hf
        obtain ⟨v, hv⟩ : ∃ v, f N = v := ⟨_, rfl⟩
        have hc2 := K2.out.at_ hN19
        rw [hv] at hc2 hbd HCy
        clear hv
        go_upto_region 7 with fail
        have hkz := K0.out.lt
        have h2z := K2.out.lt
        refine region_store [(true, 0), (true, 1), (false, 2), (false, 3), (true, 4), (true, 5), (false, 6), (true, 7), (true, 8)] 9 _ wr.heap.size zero.obj (fun w' => MBox w' w.heap.size ⟨28, m⟩) (BI wr) (by kernel_rfl) (by kernel_rfl) rfl (by kernel_rfl) rfl rfl rfl (fun w' h => MBox.below K0.out h) (BI.start wr) ?_
        refine chain_load 14 rfl rfl rfl 28 _ rfl rfl m.vals (fun w h => h) Try.underlying28 rfl (by kernel_rfl) ?_
        refine chain_pure 15 (v := .int .i64 k) rfl rfl rfl (fun w => by kernel_rfl) ?_
        refine chain_callE 16 rfl rfl rfl (fun w => by kernel_rfl) (fun w0 h0 => (HL.out w0).mono ?_)
        rintro e w2 ⟨rfl, b⟩
        refine ⟨_, rfl, b, BI wr, ⟨fun w' h => MBox.below K0.out h, fun w' h => h.size, fun w' h => Below.alloc h h.size _⟩, BI.next h0 b, ?_⟩
        clear h0 b
        refine chain_callE 17 rfl rfl rfl (fun w => by kernel_rfl) (fun w0 h0 => (round_card m x N w0 HM.out HC.out HNo.out).mono ?_)
        rintro e w3 ⟨u, rfl, hu, b⟩
        obtain ⟨p, cp, rfl, _⟩ := hu.form
        rw [orbT_len]
        refine ⟨_, rfl, b, BI wr, ⟨fun w' h => MBox.below K0.out h, fun w' h => h.size, fun w' h => Below.alloc h h.size _⟩, BI.next h0 b, ?_⟩
        clear h0 b hu
        refine chain_pure 18 (v := .int .i64 N) rfl rfl rfl (fun w => by kernel_rfl) ?_
        refine chain_pure 19 (v := .pointer (some ⟨g, N, none⟩)) rfl rfl rfl (exec_index19 hN19 rfl (by kernel_rfl) (by kernel_rfl)) ?_
        refine chain_loadI 20 rfl rfl rfl rfl (by kernel_rfl) (fun w' h => (Below.cell h (p := ⟨g, N, none⟩) h2z).trans hc2) (fun w' h => MBox.below K0.out h) (fun w' h => h.size) (fun w' h => Below.alloc h h.size _) ?_
        refine chain_pure 21 (v := .int .i64 (v + 1)) rfl rfl rfl (exec_add1 (by omega) rfl (by kernel_rfl)) ?_
        refine chain_pure 22 (v := .pointer (some ⟨g, N, none⟩)) rfl rfl rfl (exec_index19 hN19 rfl (by kernel_rfl) (by kernel_rfl)) ?_
        intro w4 b4
        have hz4 := K2.out.below b4
        refine ⟨w4.setCell ⟨g, N, none⟩ (.int .i64 (v + 1)), exec_storeI rfl (by kernel_rfl) (by kernel_rfl) (hz4.at_ hN19) (hz4.frozen _) , (MBox.below K0.out b4).far (by simp only; omega) _, ?_⟩
        simp only [Act.put, List.setIfInBounds_toArray, List.set_cons_zero, List.set_cons_succ]
        have HB := Lib.hid ((chain0 HB.out b4).setCell (p := ⟨g, N, none⟩) (by simp only; omega) (.int .i64 (v + 1)))
        have K0 := Lib.hid ((MBox.below K0.out b4).far (p := ⟨g, N, none⟩) (by simp only; omega) (.int .i64 (v + 1)))
        have K1 := Lib.hid ((CBox.below K1.out b4).far (p := ⟨g, N, none⟩) (by simp only; omega) (.int .i64 (v + 1)))
        have K2 := Lib.hid (hz4.set_ hN19 (v + 1))
        rw [← HCy.out] at K2
        clear hc2 hz4 b4 hkz h2z
        generalize w4.setCell ⟨g, N, none⟩ (.int .i64 (v + 1)) = w5 at *
        go_wp2_with fail
        go_roundw
        case rel => exact ⟨k + 1, by omega, by go_num, K2, HB, K0, K1⟩
        case measure => simp [intOf]; omega
      · obtain rfl : k = 81 := by omega
        go_wp2_with (first | ((with_reducible refine take_cnt rfl _ rfl K2.out ?_ ?_); rfl) | ((with_reducible refine store_cnt rfl _ _ rfl K1.out ?_ (cyc m 81) ?_ ?_); rfl; rfl; intro w7 hM hG))
        try simp only [Exit.inBlock, Exit.then]
        refine bodyPost_ret (res_cnt2 Try.results47 rfl hM) rfl ?_
        exact ⟨by rw [HT.out]; rfl, HB.out.grown hG HB.out.size (fun k hk => by injection hk with hk; omega)⟩

set_option maxRecDepth 100000 in
set_option maxHeartbeats 4000000 in
theorem spec_cyc (m : Mp) (w : World) :
    Calls Try.prog 46 #[m.val] w fun e w' => e = .returned (.tuple #[.agg (cnt (cycR m).1), .bool (cycR m).2]) ∧ Below w.heap.size w w' := by
  have HI := Lib.hid (fun w => l5_map m w)
  have K0 : Hid (MBox ((w.alloc (Mv.obj ⟨28, m⟩)).alloc (.cells (cnt zeroC) 57)) w.heap.size ⟨28, m⟩) := Lib.hid ((MBox.newAt rfl rfl).alloc _)
  have K1 : Hid (CBox ((w.alloc (Mv.obj ⟨28, m⟩)).alloc (.cells (cnt zeroC) 57)) (w.heap.size + 1) zeroC) := Lib.hid (CBox.newAt (by simp) rfl)
  have HB : Hid (Below w.heap.size w ((w.alloc (Mv.obj ⟨28, m⟩)).alloc (.cells (cnt zeroC) 57))) := Lib.hid (((Below.refl _ _).alloc (Nat.le_refl _) _).alloc (by simp) _)
  go_enter Try.func46, Try.ntmps46
  go_upto_region 1 with fail
  generalize ((w.alloc (Mv.obj ⟨28, m⟩)).alloc (.cells (cnt zeroC) 57)) = W at *
  have K2 : Hid (CBox (W.alloc (.cells (cnt zeroC) 57)) W.heap.size zeroC) := Lib.hid (CBox.newAt rfl rfl)
  have k1z := K1.out.lt
  have K0x := Lib.hid (K0.out.alloc (.cells (cnt zeroC) 57))
  have K1x := Lib.hid (K1.out.alloc (.cells (cnt zeroC) 57))
  have HBx := Lib.hid (HB.out.alloc HB.out.size (.cells (cnt zeroC) 57))
  clear K0 K1 HB
  obtain ⟨g, hg⟩ : ∃ g, W.heap.size = g := ⟨_, rfl⟩
  have HG := Lib.hid hg
  rw [hg] at K2 k1z
  clear hg
  go_upto_region 2 with ((with_reducible refine store_cnt rfl _ _ rfl (CBox.newAt (f := zeroC) rfl rfl) ?_ zeroC ?_ ?_); rfl; rfl; intro w6 hM hG)
  rw [HG.out] at hM hG
  have HB := Lib.hid (HBx.out.grown hG HBx.out.size (fun k hk => by injection hk with hk; omega))
  have K0 := Lib.hid (K0x.out.marked hG (fun k hk => by injection hk with hk; omega))
  have K1 := Lib.hid (CBox.marked K1x.out hG (fun e => by injection e with e; omega))
  have K2 := Lib.hid hM
  clear hM hG K0x K1x HBx
  try rw [HG.out]
  cases hm : m.ok
  · have HT := Lib.hid (show cycR m = (zeroC, false) by unfold cycR; rw [if_neg (by simp [hm])])
    rw [hm] at HI
    clear hm
    go_wp2_with ((with_reducible refine take_map rfl _ rfl K0.out ?_ ?_); rfl)
    refine (HI.out _).mono ?_
    rintro e w1 ⟨rfl, q⟩
    have HB := Lib.hid (chain0 HB.out q)
    have K1 := Lib.hid (CBox.below K1.out q)
    have K2 := Lib.hid (CBox.below K2.out q)
    clear q
    go_wp2_with (first | ((with_reducible refine take_cnt rfl _ rfl K2.out ?_ ?_); rfl) | ((with_reducible refine store_cnt rfl _ _ rfl K1.out ?_ zeroC ?_ ?_); rfl; rfl; intro w7 hM hG))
    try simp only [Exit.inBlock, Exit.then]
    refine bodyPost_ret (res_cnt2 Try.results46 rfl hM) rfl ?_
    exact ⟨by rw [HT.out]; rfl, HB.out.grown hG HB.out.size (fun k hk => by injection hk with hk; omega)⟩
  · have HT := Lib.hid (show cycR m = (cyc m 81, true) by unfold cycR; rw [if_pos hm])
    have HM := Lib.hid hm
    rw [hm] at HI
    clear hm
    go_wp2_with ((with_reducible refine take_map rfl _ rfl K0.out ?_ ?_); rfl)
    refine (HI.out _).mono ?_
    rintro e w1 ⟨rfl, q⟩
    have HB := Lib.hid (chain0 HB.out q)
    have K0 := Lib.hid (MBox.below K0.out q)
    have K1 := Lib.hid (CBox.below K1.out q)
    have K2 := Lib.hid (CBox.below K2.out q)
    clear q
    go_wp2_with fail
    go_loopw [5] (fun i wr => ∃ k : Nat, k ≤ 81 ∧ i = .int .i64 k ∧ Hid (CBox wr g (cyc m k)) ∧ Hid (Below w.heap.size w wr) ∧ Hid (MBox wr w.heap.size ⟨28, m⟩) ∧ Hid (CBox wr (w.heap.size + 1) zeroC)) (fun i _ => 81 - (intOf i).toNat)
    case atStart => exact ⟨0, Nat.zero_le _, rfl, K2, HB, K0, K1⟩
    case round =>
      clear K0 K1 K2 HB
      obtain ⟨k, hk, rfl, K2, HB, K0, K1⟩ := hrel
      by_cases hlt : k < 81
      · have m0 : (0 : Int) ≤ (k : Int) := by omega
        have m1 : (k : Int) < 81 := by omega
        have HC := Lib.hid (cdAt_okM (n := (k : Int)) m0 (by omega))
        have HL := Lib.hid (fun w => l2_atM (k : Int) w m0 (by omega))
        obtain ⟨N, hN⟩ : ∃ N, orbN m (cdAt (k : Int)) = N := ⟨_, rfl⟩
        have hN19 : N < 19 := by have := (orbN_spec HM.out HC.out).2.1; omega
        have hbd := cyc_bd m k N
        have HCy := Lib.hid (show cyc m (k + 1) = upd (cyc m k) N (cyc m k N + 1) by show upd _ (orbN m (cdAt (k : Int))) _ = _; rw [hN])
        have HNo := Lib.hid hN
        obtain ⟨x, hx⟩ : ∃ x, cdAt (k : Int) = x := ⟨_, rfl⟩
        rw [hx] at HC HL HNo
        clear hx hN
        obtain ⟨f, hf⟩ : ∃ f, cyc m k = f := ⟨_, rfl⟩
        rw [hf] at K2 hbd HCy
        clear hf
        obtain ⟨v, hv⟩ : ∃ v, f N = v := ⟨_, rfl⟩
        have hc2 := K2.out.at_ hN19
        rw [hv] at hc2 hbd HCy
        clear hv
        go_upto_region 7 with fail
        have hkz := K0.out.lt
        have h2z := K2.out.lt
        refine region_store [(true, 0), (true, 1), (false, 2), (false, 3), (true, 4), (true, 5), (false, 6), (true, 7), (true, 8)] 9 _ wr.heap.size zero.obj (fun w' => MBox w' w.heap.size ⟨28, m⟩) (BI wr) (by kernel_rfl) (by kernel_rfl) rfl (by kernel_rfl) rfl rfl rfl (fun w' h => MBox.below K0.out h) (BI.start wr) ?_
        refine chain_load 15 rfl rfl rfl 28 _ rfl rfl m.vals (fun w h => h) Try.underlying28 rfl (by kernel_rfl) ?_
        refine chain_pure 16 (v := .int .i64 k) rfl rfl rfl (fun w => by kernel_rfl) ?_
        refine chain_callE 17 rfl rfl rfl (fun w => by kernel_rfl) (fun w0 h0 => (HL.out w0).mono ?_)
        rintro e w2 ⟨rfl, b⟩
        refine ⟨_, rfl, b, BI wr, ⟨fun w' h => MBox.below K0.out h, fun w' h => h.size, fun w' h => Below.alloc h h.size _⟩, BI.next h0 b, ?_⟩
        clear h0 b
        refine chain_callE 18 rfl rfl rfl (fun w => by kernel_rfl) (fun w0 h0 => (l5_orbit m x N w0 HM.out HC.out HNo.out).mono ?_)
        rintro e w3 ⟨u, rfl, hu, b⟩
        obtain ⟨p, cp, rfl, _⟩ := hu.form
        rw [orbI_len]
        refine ⟨_, rfl, b, BI wr, ⟨fun w' h => MBox.below K0.out h, fun w' h => h.size, fun w' h => Below.alloc h h.size _⟩, BI.next h0 b, ?_⟩
        clear h0 b hu
        refine chain_pure 19 (v := .int .i64 N) rfl rfl rfl (fun w => by kernel_rfl) ?_
        refine chain_pure 20 (v := .pointer (some ⟨g, N, none⟩)) rfl rfl rfl (exec_index19 hN19 rfl (by kernel_rfl) (by kernel_rfl)) ?_
        refine chain_loadI 21 rfl rfl rfl rfl (by kernel_rfl) (fun w' h => (Below.cell h (p := ⟨g, N, none⟩) h2z).trans hc2) (fun w' h => MBox.below K0.out h) (fun w' h => h.size) (fun w' h => Below.alloc h h.size _) ?_
        refine chain_pure 22 (v := .int .i64 (v + 1)) rfl rfl rfl (exec_add1 (by omega) rfl (by kernel_rfl)) ?_
        refine chain_pure 23 (v := .pointer (some ⟨g, N, none⟩)) rfl rfl rfl (exec_index19 hN19 rfl (by kernel_rfl) (by kernel_rfl)) ?_
        intro w4 b4
        have hz4 := K2.out.below b4
        refine ⟨w4.setCell ⟨g, N, none⟩ (.int .i64 (v + 1)), exec_storeI rfl (by kernel_rfl) (by kernel_rfl) (hz4.at_ hN19) (hz4.frozen _) , (MBox.below K0.out b4).far (by simp only; omega) _, ?_⟩
        simp only [Act.put, List.setIfInBounds_toArray, List.set_cons_zero, List.set_cons_succ]
        have HB := Lib.hid ((chain0 HB.out b4).setCell (p := ⟨g, N, none⟩) (by simp only; omega) (.int .i64 (v + 1)))
        have K0 := Lib.hid ((MBox.below K0.out b4).far (p := ⟨g, N, none⟩) (by simp only; omega) (.int .i64 (v + 1)))
        have K1 := Lib.hid ((CBox.below K1.out b4).far (p := ⟨g, N, none⟩) (by simp only; omega) (.int .i64 (v + 1)))
        have K2 := Lib.hid (hz4.set_ hN19 (v + 1))
        rw [← HCy.out] at K2
        clear hc2 hz4 b4 hkz h2z
        generalize w4.setCell ⟨g, N, none⟩ (.int .i64 (v + 1)) = w5 at *
        go_wp2_with fail
        go_roundw
        case rel => exact ⟨k + 1, by omega, by go_num, K2, HB, K0, K1⟩
        case measure => simp [intOf]; omega
      · obtain rfl : k = 81 := by omega
        go_wp2_with (first | ((with_reducible refine take_cnt rfl _ rfl K2.out ?_ ?_); rfl) | ((with_reducible refine store_cnt rfl _ _ rfl K1.out ?_ (cyc m 81) ?_ ?_); rfl; rfl; intro w7 hM hG))
        try simp only [Exit.inBlock, Exit.then]
        refine bodyPost_ret (res_cnt2 Try.results46 rfl hM) rfl ?_
        exact ⟨by rw [HT.out]; rfl, HB.out.grown hG HB.out.size (fun k hk => by injection hk with hk; omega)⟩
end Go.Proofs.Ytngfdfgeoieebaa.maps
