/- CountKinds: the model; five counts compared by the law. -/
import Derived.Test.YtjmlefcmhjodeaaXi
namespace Go.Proofs.Ytjmlefcmhjodeaa.others
open Go.RowKit
open cards reg
open deal (TBox TBox.below TBox.newAt TBox.alloc TBox.cell TBox.lt TBox.drewN TBox.drew)
set_option linter.unusedVariables false

section
variable {ops : Array Oper} {S : World → Prop} {n0 : Nat} {obj : Obj} {fin : Act → (World → Prop) → Prop}
theorem chain_intS (d : Tmp) {i : Nat} {r : List (Bool × Nat)} {a : Act} {I : World → Prop} {o : Oper} (ho : ops[i]? = some o) (hd : o.dst = some d) (hg : o.guard = none) {p : Operand} (hop : o.op = .load 3 p) {g j : Nat} {x : Int}
    (hp : a.eval p = .pointer (some ⟨g, j, none⟩)) (hc : ∀ w, S w → w.cell? ⟨g, j, none⟩ = some (.int .i64 x))
    (hr : chainA Try.prog ops S n0 obj fin r (a.put (some d) (.int .i64 x)) I) : chainA Try.prog ops S n0 obj fin ((true, i) :: r) a I :=
  ⟨o, .int .i64 x, ho, .inl ⟨wanted_of hg, fun w hw => exec_loadI hop hp (hc w hw)⟩, hd ▸ hr⟩
end

set_option maxRecDepth 100000 in
set_option maxHeartbeats 4000000 in
theorem spec_ck (l : List Cd) (p : Option Addr) (n cp : Nat) (w : World) (hn : l.length = n) (hl : n ≤ 1000000000) (hr : Rd w p (flat l)) :
    Calls Try.prog 26 #[.slice p n cp] w fun e w' => e = .returned (.tuple #[.agg (c5 (ckR l).1), .bool (ckR l).2]) ∧ Below w.heap.size w w' := by
  have HN := Lib.hid hn
  have HR0 := Lib.hid hr
  clear hn hr
  have K1 : Hid (VB (w.alloc (.cells (c5 zero5) 37)) w.heap.size 37 (c5 zero5)) := Lib.hid (VB.newAt rfl rfl)
  have HB : Hid (Below w.heap.size w (w.alloc (.cells (c5 zero5) 37))) := Lib.hid ((Below.refl _ _).alloc (Nat.le_refl _) _)
  have HF := Lib.hid (show handB l = false → ckR l = (zero5, false) from fun h => by
    have e : linR l = ([], false) := by unfold linR; rw [if_neg (by simp [h])]
    unfold ckR; rw [e]; rfl)
  have HY := Lib.hid (show handB l = true → ckR l = (kcnt (kindL l) (allL l n) (allL l n).length, true) from fun h => by
    have e : linR l = (allL l n, true) := by unfold linR; rw [if_pos h, HN.out]
    unfold ckR; rw [e])
  generalize ckR l = cr at *
  obtain ⟨cr1, cr2⟩ := cr
  dsimp only
  go_enter Try.func26, Try.ntmps26
  go_upto_region 1 with fail
  generalize w.alloc (.cells (c5 zero5) 37) = W at *
  have K2 : Hid (VB (W.alloc (.cells (c5 zero5) 37)) W.heap.size 37 (c5 zero5)) := Lib.hid (VB.newAt rfl rfl)
  have k1z := K1.out.lt
  have K1x := Lib.hid (K1.out.alloc (.cells (c5 zero5) 37))
  have HB0 := Lib.hid HB.out
  clear K1 HB
  go_upto_region 2 with ((with_reducible refine store5 rfl _ _ rfl K2.out ?_ zero5 ?_ ?_); rfl; rfl; intro w2 hM hG)
  have K1 := Lib.hid (VB.marked K1x.out hG (fun e => by injection e with e; omega))
  have b : Below W.heap.size W w2 := Below.grown ((Below.refl _ _).alloc (Nat.le_refl _) _) hG (by simp) (fun k hk => by injection hk with hk; omega)
  have HB := Lib.hid (chain0 HB0.out b)
  have hgz := hM.lt
  have HR2 := Lib.hid (HR0.out.below HB.out)
  have K2 := Lib.hid hM
  obtain ⟨g, hg⟩ : ∃ g, W.heap.size = g := ⟨_, rfl⟩
  rw [hg] at K2 hgz k1z
  try rw [hg]
  clear hg hM hG b K1x
  have HGz := Lib.hid hgz
  go_wp2_with fail
  refine ((l2_hand l p n cp _ HN.out hl (by repeat (first | with_reducible exact HR2.out | with_reducible apply Rd.drewN | with_reducible apply Rd.drew | with_reducible apply Rd.alloc)))).mono ?_
  rintro e wh ⟨rfl, b⟩
  have Swh := Lib.hid b.size
  have HB := Lib.hid (chain0 (w := w) (by repeat (first | with_reducible exact Below.refl _ _ | with_reducible exact HB.out | with_reducible apply Below.drew | with_reducible apply bdN | with_reducible refine Below.alloc ?_ (by first | exact Nat.le_refl _ | with_reducible exact HB.out.size | omega | (simp; done) | (simp; omega) | (have := HB.out.size; simp at *; omega)) _ | with_reducible refine Below.setCell ?_ (by first | exact Nat.le_refl _ | with_reducible exact HB.out.size | omega | (simp; done) | (simp; omega) | (have := HB.out.size; simp at *; omega)) _)) b)
  have K1 := Lib.hid (VB.below (by repeat (first | with_reducible exact K1.out | with_reducible apply VB.drewN | with_reducible apply VB.drew | with_reducible apply VB.alloc)) b)
  have K2 := Lib.hid (VB.below (by repeat (first | with_reducible exact K2.out | with_reducible apply VB.drewN | with_reducible apply VB.drew | with_reducible apply VB.alloc)) b)
  have HR2 := Lib.hid (Rd.below (by repeat (first | with_reducible exact HR2.out | with_reducible apply Rd.drewN | with_reducible apply Rd.drew | with_reducible apply Rd.alloc)) b)
  clear b
  have HGz := Lib.hid K2.out.lt
  cases hh : handB l
  · have HT := Lib.hid (HF.out hh)
    clear hh
    go_wp2_with (first | ((with_reducible refine take5 rfl _ rfl K2.out ?_ ?_); rfl) | ((with_reducible refine store5 rfl _ _ rfl K1.out ?_ zero5 ?_ ?_); rfl; rfl; intro w7 hM hG))
    try simp only [Exit.inBlock, Exit.then]
    refine bodyPost_ret (res_vb2 Try.results26 rfl hM Try.underlying37 c5_info) rfl ?_
    exact ⟨by injection HT.out with h1 h2; rw [h1, h2]; rfl, HB.out.grown hG HB.out.size (fun k hk => by injection hk with hk; omega)⟩
  · have HT := Lib.hid (HY.out hh)
    have HH := Lib.hid (handB_true.1 hh)
    have HP := Lib.hid (fun a (ha : a ∈ allL l n) => line_parts HN.out HH.out.2.2 HH.out.2.1 ha)
    have HLi := Lib.hid (fun w h => l2_lines l p n cp w HN.out (by have := HH.out.1; have := HN.out; omega) h HH.out.2.1 HH.out.2.2)
    have HLn := Lib.hid (show (allL l n).length ≤ 1000 from by
      have h1 := HH.out.1
      have h2 := allL_len l n
      have h3 : n * l.length ≤ 27 * 27 := Nat.mul_le_mul (by have := HN.out; omega) h1
      omega)
    clear hh
    generalize allL l n = L at *
    obtain ⟨m, hm⟩ : ∃ m, L.length = m := ⟨_, rfl⟩
    have HMm := Lib.hid hm
    rw [hm] at HLn HT
    clear hm
    go_wp2_with fail
    refine (HLi.out _ (by repeat (first | with_reducible exact HR2.out | with_reducible apply Rd.drewN | with_reducible apply Rd.drew | with_reducible apply Rd.alloc))).mono ?_
    rintro e w3 ⟨u, rfl, hu, b⟩
    have Sw3 := Lib.hid b.size
    have HB := Lib.hid (chain0 (w := w) (by repeat (first | with_reducible exact Below.refl _ _ | with_reducible exact HB.out | with_reducible apply Below.drew | with_reducible apply bdN | with_reducible refine Below.alloc ?_ (by first | exact Nat.le_refl _ | with_reducible exact HB.out.size | omega | (simp; done) | (simp; omega) | (have := HB.out.size; simp at *; omega)) _ | with_reducible refine Below.setCell ?_ (by first | exact Nat.le_refl _ | with_reducible exact HB.out.size | omega | (simp; done) | (simp; omega) | (have := HB.out.size; simp at *; omega)) _)) b)
    have K1 := Lib.hid (VB.below (by repeat (first | with_reducible exact K1.out | with_reducible apply VB.drewN | with_reducible apply VB.drew | with_reducible apply VB.alloc)) b)
    have K2 := Lib.hid (VB.below (by repeat (first | with_reducible exact K2.out | with_reducible apply VB.drewN | with_reducible apply VB.drew | with_reducible apply VB.alloc)) b)
    have HR2 := Lib.hid (Rd.below (by repeat (first | with_reducible exact HR2.out | with_reducible apply Rd.drewN | with_reducible apply Rd.drew | with_reducible apply Rd.alloc)) b)
    clear b
    obtain ⟨pu, cu, rfl, hcu, _, _⟩ := hu.form
    rw [HMm.out] at hu hcu ⊢
    have HO3 := Lib.hid hu
    clear hu
    go_wp2_with fail
    have HG3 : Hid (w3.grownBy w3 (some g)) := Lib.hid (World.grownBy.refl _ _)
    go_loopw [6] (fun i wr => ∃ k : Nat, k ≤ m ∧ i = .int .i64 k ∧ Hid (VB wr g 37 (c5 (kcnt (kindL l) L k))) ∧ Hid (VB wr w.heap.size 37 (c5 zero5)) ∧ Hid (Below w.heap.size w wr) ∧ Hid (w3.grownBy wr (some g))) (fun i _ => m - (intOf i).toNat)
    case atStart => exact ⟨0, Nat.zero_le _, rfl, K2, K1, HB, HG3⟩
    case round =>
      clear K1 K2 HB HG3 HR2
      obtain ⟨k, hk, rfl, K2, K1, HB, HG⟩ := hrel
      have m0 : (0 : Int) ≤ (k : Int) := by omega
      by_cases hlt : k < m
      · have HOr := Lib.hid (OwnA3.off HO3.out HG.out HGz.out)
        obtain ⟨bu, ou, a, rfl, hbu, ha, c0, c1, c2⟩ := HOr.out.rd.aA3 (k := k) (by rw [HMm.out]; exact hlt)
        obtain ⟨i, j, q, x, y, z, rfl, hi, hj, hq, hx, hy, hz, hli⟩ := HP.out a (List.mem_of_getElem? ha)
        have hdb := line_dif hli
        obtain ⟨d, hd⟩ : ∃ d : Nat, dif x y = (d : Int) := ⟨(dif x y).toNat, by omega⟩
        have hd5 : d < 5 := by omega
        have HS := Lib.hid (show kcnt (kindL l) L (k + 1) = upd (kcnt (kindL l) L k) d (kcnt (kindL l) L k d + 1) by rw [kcnt_step ha, kindL_at hx hy, hd, Int.toNat_natCast])
        obtain ⟨f0, f1⟩ := kcnt_bd (kindL l) L k d
        have HD := Lib.hid (fun w => l2_differ x y w)
        rw [hd] at HD
        have hmm := HLn.out
        have f2 : kcnt (kindL l) L k d ≤ 1000000 := by omega
        generalize kcnt (kindL l) L k = f at *
        obtain ⟨b, o, x', rfl, hb, hx', x0, x1, x2, x3⟩ := (HR0.out.below HB.out).card (k := i) (by rw [HN.out]; exact hi)
        rw [hx] at hx'; injection hx' with hx'; subst hx'
        obtain ⟨y0, y1, y2, y3⟩ := (HR0.out.below HB.out).at_ hy
        have hbg : b ≠ g := by
          obtain ⟨b', o', x', hbo, hb', _⟩ := HR0.out.card (k := i) (by rw [HN.out]; exact hi)
          injection hbo with hbo
          injection hbo with e1 e2
          omega
        have hug : bu ≠ g := by
          have := (OwnA3.span HO3.out bu rfl).1
          have := HGz.out
          omega
        have HX : Hid (∀ w', GS wr g w' → w'.cell? ⟨b, o + i * 4, none⟩ = some (.int .i64 x.a) ∧ w'.cell? ⟨b, o + i * 4 + 1, none⟩ = some (.int .i64 x.b) ∧ w'.cell? ⟨b, o + i * 4 + 2, none⟩ = some (.int .i64 x.c) ∧ w'.cell? ⟨b, o + i * 4 + 3, none⟩ = some (.int .i64 x.d)) := Lib.hid (fun w' h => ⟨GS.cell h x0 hb hbg, GS.cell h x1 hb hbg, GS.cell h x2 hb hbg, GS.cell h x3 hb hbg⟩)
        have HYy : Hid (∀ w', GS wr g w' → w'.cell? ⟨b, o + j * 4, none⟩ = some (.int .i64 y.a) ∧ w'.cell? ⟨b, o + j * 4 + 1, none⟩ = some (.int .i64 y.b) ∧ w'.cell? ⟨b, o + j * 4 + 2, none⟩ = some (.int .i64 y.c) ∧ w'.cell? ⟨b, o + j * 4 + 3, none⟩ = some (.int .i64 y.d)) := Lib.hid (fun w' h => ⟨GS.cell h y0 hb hbg, GS.cell h y1 hb hbg, GS.cell h y2 hb hbg, GS.cell h y3 hb hbg⟩)
        have HC0 : Hid (∀ w', GS wr g w' → w'.cell? ⟨bu, ou + k * 3, none⟩ = some (.int .i64 (i : Int))) := Lib.hid (fun w' h => GS.cell h c0 hbu hug)
        have HC1 : Hid (∀ w', GS wr g w' → w'.cell? ⟨bu, ou + k * 3 + 1, none⟩ = some (.int .i64 (j : Int))) := Lib.hid (fun w' h => GS.cell h c1 hbu hug)
        clear hq hx hy hz hli ha hdb hd f1 c0 c1 c2 x0 x1 x2 x3 y0 y1 y2 y3
        have m1 : (k : Int) < (m : Int) := by omega
        have hgz2 := K2.out.lt
        go_upto_region 8 with fail
        refine region_storeG g [(true, 0), (true, 1), (true, 2), (true, 3), (true, 4), (true, 5), (true, 6), (true, 7), (true, 8), (true, 9), (true, 10), (true, 11), (true, 12), (true, 13), (true, 14), (true, 15), (false, 16), (true, 17), (false, 18), (true, 19), (true, 20)] 21 _ (by kernel_rfl) rfl (by kernel_rfl) rfl rfl rfl ?_
        refine chain_pure 20 (v := .slice (some ⟨b, o, none⟩) n cp) rfl rfl rfl (fun w => by kernel_rfl) ?_
        refine chain_pure 21 (v := .slice (some ⟨bu, ou, none⟩) m cu) rfl rfl rfl (fun w => by kernel_rfl) ?_
        refine chain_pure 22 (v := .int .i64 k) rfl rfl rfl (fun w => by kernel_rfl) ?_
        refine chain_pure 23 (v := .pointer (some ⟨bu, ou + k * 3, none⟩)) rfl rfl rfl (exec_indexL (cp := cu) hlt rfl (by kernel_rfl) (by kernel_rfl)) ?_
        refine chain_pure 24 (v := .pointer (some ⟨bu, ou + k * 3 + 0, none⟩)) rfl rfl rfl (exec_index3o (N := 0) (by omega) rfl (by kernel_rfl) (by kernel_rfl)) ?_
        refine chain_intS 25 rfl rfl rfl rfl (by kernel_rfl) HC0.out ?_
        refine chain_pure 26 (v := .pointer (some ⟨b, o + i * 4, none⟩)) rfl rfl rfl (exec_indexS (cp := cp) hi rfl (by kernel_rfl) (by kernel_rfl)) ?_
        refine chain_card 27 rfl rfl rfl _ rfl (by kernel_rfl) x HX.out ?_
        refine chain_pure 28 (v := .slice (some ⟨b, o, none⟩) n cp) rfl rfl rfl (fun w => by kernel_rfl) ?_
        refine chain_pure 29 (v := .slice (some ⟨bu, ou, none⟩) m cu) rfl rfl rfl (fun w => by kernel_rfl) ?_
        refine chain_pure 30 (v := .int .i64 k) rfl rfl rfl (fun w => by kernel_rfl) ?_
        refine chain_pure 31 (v := .pointer (some ⟨bu, ou + k * 3, none⟩)) rfl rfl rfl (exec_indexL (cp := cu) hlt rfl (by kernel_rfl) (by kernel_rfl)) ?_
        refine chain_pure 32 (v := .pointer (some ⟨bu, ou + k * 3 + 1, none⟩)) rfl rfl rfl (exec_index3o (N := 1) (by omega) rfl (by kernel_rfl) (by kernel_rfl)) ?_
        refine chain_intS 33 rfl rfl rfl rfl (by kernel_rfl) HC1.out ?_
        refine chain_pure 34 (v := .pointer (some ⟨b, o + j * 4, none⟩)) rfl rfl rfl (exec_indexS (cp := cp) hj rfl (by kernel_rfl) (by kernel_rfl)) ?_
        refine chain_card 35 rfl rfl rfl _ rfl (by kernel_rfl) y HYy.out ?_
        refine chain_callG 36 rfl rfl rfl (fun w => by kernel_rfl) (fun w h => HD.out w) ?_
        refine chain_pure 37 (v := .pointer (some ⟨g, d, none⟩)) rfl rfl rfl (exec_index5 hd5 rfl (by kernel_rfl) (by kernel_rfl)) ?_
        refine chain_loadI 38 rfl rfl rfl rfl (by kernel_rfl) (fun w' h => VB.at_ (K2.out.below h) (c5_at f hd5)) (fun w' h => BI.gs g h) (fun w' h => Below.size h) (fun w' h => Below.alloc h (Below.size h) _) ?_
        refine chain_pure 39 (v := .int .i64 (f d + 1)) rfl rfl rfl (exec_add1 ⟨f0, f2⟩ rfl (by kernel_rfl)) ?_
        refine chain_pure 40 (v := .pointer (some ⟨g, d, none⟩)) rfl rfl rfl (exec_index5 hd5 rfl (by kernel_rfl) (by kernel_rfl)) ?_
        intro w8 b8
        have hz8 := K2.out.below b8
        refine ⟨w8.setCell ⟨g, d, none⟩ (.int .i64 (f d + 1)), exec_storeI rfl (by kernel_rfl) (by kernel_rfl) (VB.at_ hz8 (c5_at f hd5)) (hz8.frozen _), GS.set_ (BI.gs g b8) _ _, ?_⟩
        simp only [Act.put, List.setIfInBounds_toArray, List.set_cons_zero, List.set_cons_succ]
        have K1 := Lib.hid (VB.far (K1.out.below b8) (p := ⟨g, d, none⟩) (by simp only; omega) (.int .i64 (f d + 1)))
        have HB := Lib.hid (Below.setCell (chain0 HB.out b8) (p := ⟨g, d, none⟩) (by simp only; omega) (.int .i64 (f d + 1)))
        have HG := Lib.hid (World.grownBy.trans (World.grownBy.trans HG.out (BI.gs g b8)) (grown_setV w8 g d (.int .i64 (f d + 1))))
        have K2 := Lib.hid (VB.set_ hz8 (c5_set f hd5 (f d + 1)))
        rw [← HS.out] at K2
        clear hz8 b8
        generalize w8.setCell ⟨g, d, none⟩ (.int .i64 (f d + 1)) = w9 at *
        go_wp2_with fail
        go_roundw
        case rel => exact ⟨k + 1, by omega, by go_num, K2, K1, HB, HG⟩
        case measure => simp [intOf]; omega
      · obtain rfl : k = m := by omega
        go_wp2_with (first | ((with_reducible refine take5 rfl _ rfl K2.out ?_ ?_); rfl) | ((with_reducible refine store5 rfl _ _ rfl K1.out ?_ (kcnt (kindL l) L k) ?_ ?_); rfl; rfl; intro w7 hM hG))
        try simp only [Exit.inBlock, Exit.then]
        refine bodyPost_ret (res_vb2 Try.results26 rfl hM Try.underlying37 c5_info) rfl ?_
        exact ⟨by injection HT.out with h1 h2; rw [h1, h2]; rfl, HB.out.grown hG HB.out.size (fun k hk => by injection hk with hk; omega)⟩
end Go.Proofs.Ytjmlefcmhjodeaa.others
