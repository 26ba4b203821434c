/- slices.Insert of a card, at the type [][4]int: where there is no room. -/
import Derived.Test.YtghfplmpfgkmeaaG3c
namespace Go.Proofs.Ytghfplmpfgkmeaa.chance
open Go.RowKit
open cards reg
set_option linter.unusedVariables false

set_option maxRecDepth 100000 in
set_option maxHeartbeats 4000000 in
theorem insert_grow (l : List Cd) (x : Cd) (B g n cap gv i : Nat) (w : World) (hn : l.length = n) (hl : n ≤ 1000) (hin : i < n) (hroom : cap < n + 1) (hO : Own w B (.slice (some ⟨g, 0, none⟩) n cap) l) (hv : Box w gv x) (hB : B ≤ w.heap.size) :
    Calls Try.prog 24 #[.slice (some ⟨g, 0, none⟩) n cap, .int .i64 i, .slice (some ⟨gv, 0, none⟩) 1 1] w fun e w' => ∃ g' c', e = .returned (.slice (some ⟨g', 0, none⟩) (n + 1) c') ∧ Own w' B (.slice (some ⟨g', 0, none⟩) (n + 1) c') (insC l i x) ∧ Below B w w' := by
  obtain ⟨cur, hBg, hg, hnc, hcm, hcs, htk⟩ := own_parts hO hn
  have hgl : g < w.heap.size := (Array.getElem?_eq_some_iff.1 hg).1
  obtain rfl : cap = n := by omega
  obtain ⟨i0, hi0, hz0, hsz, hbz⟩ := info_parts a4info
  have hAl : (flat (l.take i)).length = i * 4 := by rw [flat_len, List.length_take]; omega
  have hDl : (flat (l.drop i)).length = (cap - i) * 4 := by rw [flat_len, List.length_drop]; omega
  have hcell : ∀ j v, (flat l)[j]? = some v → w.cell? ⟨g, j, none⟩ = some v := fun j v hj => by
    rw [cell_of_row w g _ _ _ _ hg]
    have hlt := (List.getElem?_eq_some_iff.1 hj).1
    rw [← htk, List.getElem?_take_of_lt (by rw [flat_len] at hlt; omega)] at hj
    simpa using hj
  have hspl : flat l = flat (l.take i) ++ flat (l.drop i) := by rw [← flat_app, List.take_append_drop]
  have hold : (Builtin.firstCells i0.size i (.slice (some ⟨g, 0, none⟩) i cap)).run Try.prog w.drew = .ok (flat (l.take i)).toArray w.drew := by
    rw [hsz]
    exact run_firstCells_some w.drew 4 i ⟨g, 0, none⟩ i cap (flat (l.take i)) (by rw [hAl]) (fun j v hj => by
      rw [addrP, Nat.zero_add]
      exact hcell j v (by rw [hspl, List.getElem?_append_left (List.getElem?_eq_some_iff.1 hj).1]; exact hj))
  obtain ⟨G, hG⟩ : ∃ G, G = grownCap w (cap + 1) cap 32 := ⟨_, rfl⟩
  have hGn : cap + 1 ≤ G := by rw [hG]; exact grownCap_ge w _ _ _
  have hGm : G ≤ maxLen := by rw [hG]; exact grownCap_le_maxLen w _ _ _ (by simp only [maxLen]; omega)
  obtain ⟨Z, hZ⟩ : ∃ Z, Z = (Builtin.zeroCells (Value.agg #[.int .i64 0, .int .i64 0, .int .i64 0, .int .i64 0]).cells (cap + 1 - i) ++ Builtin.zeroCells (Value.agg #[.int .i64 0, .int .i64 0, .int .i64 0, .int .i64 0]).cells (G - (cap + 1))) := ⟨_, rfl⟩
  have hZl : Z.toList.length = (G - i) * 4 := by
    rw [hZ, Array.length_toList, Array.size_append, size_zeroCells, size_zeroCells]
    show (cap + 1 - i) * 4 + (G - (cap + 1)) * 4 = _
    omega
  have hrz : ∀ ty, (Builtin.append_ #[22, 3] ty #[.slice (some ⟨g, 0, none⟩) i cap, .int .i64 ((cap : Int) + 1 - (i : Int))]).run Try.prog w =
      .ok (.slice (some ⟨w.heap.size, 0, none⟩) (cap + 1) G) (w.drew.alloc (.cells ((flat (l.take i)).toArray ++ Z) 32)) := fun ty => by
    have h := Lib.run_append_grow_zeros (P := Try.prog) w 22 3 ty 32 i0 _ .i64 .i64 und_holder Try.underlying3 hi0 hz0 (some ⟨g, 0, none⟩) i cap (flat (l.take i)) hold (cap + 1 - i) (by omega) (by omega) (by omega) (by omega) (by rw [hbz]; omega) (by rw [hbz, show i + (cap + 1 - i) = cap + 1 by omega]; exact growslice_fits (by omega) (by omega))
    rw [show i + (cap + 1 - i) = cap + 1 by omega, ← hG] at h
    rw [show (cap : Int) + 1 - (i : Int) = ((cap + 1 - i : Nat) : Int) by omega, h, hZ, Array.append_assoc]
  obtain ⟨T', hrow, hT'⟩ := over_new (flat (l.take i)) Z.toList (flat (l.drop i)) x.cells rfl (by rw [hDl, hZl]; omega)
  obtain ⟨gN, hgN⟩ : ∃ gN, w.heap.size = gN := ⟨_, rfl⟩
  obtain ⟨r0, hr0⟩ : ∃ r0 : List Value, flat (l.take i) ++ Z.toList = r0 := ⟨_, rfl⟩
  have hr0l : r0.length = G * 4 := by rw [← hr0, List.length_append, hAl, hZl]; omega
  rw [hr0, hAl] at hrow
  obtain ⟨r1, hr1⟩ : ∃ r1, over r0 (i * 4) x.cells = r1 := ⟨_, rfl⟩
  have hr1l : r1.length = G * 4 := by rw [← hr1, over_len (by rw [hr0l, show x.cells.length = 4 from rfl]; omega), hr0l]
  rw [hr1] at hrow
  obtain ⟨r2, hr2⟩ : ∃ r2, over r1 (i * 4 + 4) (flat (l.drop i)) = r2 := ⟨_, rfl⟩
  have hr2l : r2.length = G * 4 := by rw [← hr2, over_len (by rw [hr1l, hDl]; omega), hr1l]
  rw [hr2] at hrow
  have hr2t : r2.take ((cap + 1) * 4) = flat (insC l i x) := by
    have hll : (cap + 1) * 4 = (flat (l.take i) ++ (x.cells ++ flat (l.drop i))).length := by
      rw [List.length_append, List.length_append, hAl, hDl, show x.cells.length = 4 from rfl]; omega
    rw [hrow, insC_flat, show flat (l.take i) ++ (x.cells ++ (flat (l.drop i) ++ T')) = (flat (l.take i) ++ (x.cells ++ flat (l.drop i))) ++ T' by simp, hll, List.take_left]
  have hi2 : Nat.min 1 (cap + 1 - i) = 1 := by simp only [Nat.min_def]; split <;> omega
  have hcp1 : ∀ (W : World), W.heap[gN]? = some (.cells r0.toArray 32 (0, 0)) → Box W gv x → ∀ ty, (Builtin.copy_ #[22, 22] ty #[.slice (some ⟨gN, i * 4, none⟩) (cap + 1 - i) (G - i), .slice (some ⟨gv, 0, none⟩) 1 1]).run Try.prog W = .ok (goInt (1 : Nat)) (W.setRow gN r1.toArray) := fun W hW hb ty => by
    have h := run_copy_rowK (P := Try.prog) W 22 22 ty 32 4 gN (i * 4) (cap + 1 - i) (G - i) ⟨gv, 0, none⟩ 1 1 r0.toArray 32 x.cells und_holder hold_info hW (by rw [hi2]; rfl)
      (fun j v hj => by
        rw [addrP, cell_of_row W gv _ _ _ _ hb, Nat.zero_add]
        simpa [Cd.cells] using hj) (by rw [show x.cells.length = 4 from rfl]; simp; omega) (cells_1c x)
    rw [hi2] at h
    rw [h, List.toList_toArray, hr1]
  have hi1 : Nat.min (cap - i) (cap + 1 - (i + 1)) = cap - i := by simp only [Nat.min_def]; split <;> omega
  have hcp2 : ∀ (W : World), W.heap[gN]? = some (.cells r1.toArray 32 (0, 0)) → W.heap[g]? = some (.cells cur 32 (0, 0)) → ∀ ty, (Builtin.copy_ #[22, 22] ty #[.slice (some ⟨gN, 0 + (i + 1) * 4, none⟩) (cap + 1 - (i + 1)) (G - (i + 1)), .slice (some ⟨g, 0 + i * 4, none⟩) (cap - i) (cap - i)]).run Try.prog W = .ok (goInt (cap - i : Nat)) (W.setRow gN r2.toArray) := fun W hW hW2 ty => by
    have h := run_copy_rowK (P := Try.prog) W 22 22 ty 32 4 gN (0 + (i + 1) * 4) (cap + 1 - (i + 1)) (G - (i + 1)) ⟨g, 0 + i * 4, none⟩ (cap - i) (cap - i) r1.toArray 32 (flat (l.drop i)) und_holder hold_info hW (by rw [hi1, hDl])
      (fun j v hj => by
        rw [addrP, cell_of_row W g _ _ _ _ hW2]
        have h3 := hcell (i * 4 + j) v (by rw [hspl, List.getElem?_append_right (by rw [hAl]; omega), hAl, show i * 4 + j - i * 4 = j by omega]; exact hj)
        rw [cell_of_row w g _ _ _ _ hg] at h3
        rw [show 0 + i * 4 + j = i * 4 + j by omega]
        exact h3) (by rw [hDl]; simp; omega) (flat_1c _)
    rw [hi1] at h
    rw [h, List.toList_toArray, show 0 + (i + 1) * 4 = i * 4 + 4 by omega, hr2]
  have hnew : ∀ (c : World), (c.alloc (.cells ((flat (l.take i)).toArray ++ Z) 32)).heap[c.heap.size]? = some (.cells r0.toArray 32 (0, 0)) := fun c => by
    have h := heap_alloc_new c (.cells ((flat (l.take i)).toArray ++ Z) 32)
    have e : (flat (l.take i)).toArray ++ Z = r0.toArray := by rw [← hr0]; apply Array.toList_inj.1; simp
    rw [h, e]
  have HRz := Lib.hid hrz
  have HNw := Lib.hid hnew
  have HG := Lib.hid hg
  have HGl := Lib.hid hgl
  have HBg := Lib.hid hBg
  have HV := Lib.hid hv
  have H1 := Lib.hid hcp1
  have H2 := Lib.hid hcp2
  have HgN := Lib.hid hgN
  have HF : Hid (∀ W : World, W.heap[gN]? = some (.cells r2.toArray 32 (0, 0)) → Own W B (.slice (some ⟨gN, 0, none⟩) (cap + 1) G) (insC l i x)) := Lib.hid (fun W hW => own_of (by omega) hW (by rw [insC_len, hn]) hGn hGm hr2l hr2t)
  have hB2 := Lib.hid hB
  rw [hgN] at hrz
  clear hcp1 hcp2 hAl hDl hrow hT' hr0 hr0l hr1 hr1l hr2 hr2l hr2t hi1 hi2 hg hgl hBg hcs htk hO hn hv hcell hspl hold hG hZ hZl hnew hi0 hz0 hsz hbz hgN
  have h0 : ¬ (1 : Int) = 0 := by omega
  have h1 : (0 : Int) ≤ (i : Int) := by omega
  have h2 : (i : Int) ≤ (cap : Int) := by omega
  have h4 : ¬ (i : Int) = (cap : Int) := by omega
  have h5 : (cap : Int) < (cap : Int) + 1 := by omega
  have h6 : ¬ cap = i := by omega
  have h7 : ¬ G = i := by omega
  have h8 : (i : Int) ≤ (cap : Int) + 1 := by omega
  have h9 : ((cap : Int) + 1).toNat = cap + 1 := by omega
  have h11 : (cap : Int) + 1 ≤ (G : Int) := by omega
  have h12 : (G : Int) ≤ 9223372036854775807 := by simp only [maxLen] at hGm; omega
  have h13 : ¬ G = i + 1 := by omega
  have h14 : (cap : Int) ≤ 1000 := by omega
  generalize hW1 : w.drew.alloc (.cells ((flat (l.take i)).toArray ++ Z) 32) = W1 at hrz
  have HW1 := Lib.hid hW1
  go_enter Try.func24, Try.ntmps24
  go_upto_region 10 with (at_builtin; refine Lib.wpList_append_run _ rfl (.tmp 34) (.tmp 39) _ _ rfl _ _ rfl rfl _ _ (hrz _) ?_)
  have a0 : W1.heap[gN]? = some (.cells r0.toArray 32 (0, 0)) := by
    have h := HNw.out w.drew
    rw [HW1.out] at h
    rw [← HgN.out]; exact h
  have a1 : W1.heap[g]? = some (.cells cur 32 (0, 0)) := by
    rw [← HW1.out]
    exact (Below.heap_alloc w.drew _ g HGl.out).trans HG.out
  have a2 : Box W1 gv x := by
    rw [← HW1.out]
    exact (Box.drew HV.out).alloc _
  have HB1 : Hid (Below B w W1) := Lib.hid (by
    rw [← HW1.out]
    exact ((Below.refl B w).drew).alloc hB2.out _)
  have HBN := Lib.hid (show B ≤ gN by have := hB2.out; have := HgN.out; omega)
  have HNe := Lib.hid (show g ≠ gN by have := HGl.out; have := HgN.out; omega)
  have HNv := Lib.hid (show gv ≠ gN by have := HV.out.lt; have := HgN.out; omega)
  have h1r := H1.out W1 a0 a2
  have HA0 := Lib.hid a0
  have HA1 := Lib.hid a1
  clear a0 a1 a2 hrz
  go_upto_region 11 with (refine list_copy rfl (.tmp 43) (.tmp 44) 22 22 (.slice (some ⟨gN, i * 4, none⟩) (cap + 1 - i) (G - i)) (.slice (some ⟨gv, 0, none⟩) 1 1) _ _ rfl rfl rfl (h1r _) ?_)
  have b0 : (W1.setRow gN r1.toArray).heap[gN]? = some (.cells r1.toArray 32 (0, 0)) := setRow_heap _ gN r0.toArray _ _ _ HA0.out
  have b1 : (W1.setRow gN r1.toArray).heap[g]? = some (.cells cur 32 (0, 0)) := (setRow_other W1 gN g r1.toArray HNe.out).trans HA1.out
  have HB2 : Hid (Below B w (W1.setRow gN r1.toArray)) := Lib.hid (HB1.out.trans (below_row HBN.out _))
  have HA0 := Lib.hid b0
  have HA1 := Lib.hid b1
  clear b0 b1 h1r HB1
  generalize W1.setRow gN r1.toArray = W2 at *
  refine region_seq [0, 1, 2, 3, 4, 5, 6, 7] [8] (by kernel_rfl) (by kernel_rfl) rfl (by kernel_rfl) (fun _ => True) (fun _ _ => trivial) ?_
  refine j_pure 46 (v := .slice (some ⟨gN, 0, none⟩) (cap + 1) G) rfl rfl rfl (fun w => by kernel_rfl) ?_
  refine j_pure 47 (v := .int .i64 i) rfl rfl rfl (fun w => by kernel_rfl) ?_
  refine j_pure 48 (v := .int .i64 1) rfl rfl rfl (fun w => by kernel_rfl) ?_
  refine j_pure 49 (v := .int .i64 ((i : Int) + 1)) rfl rfl rfl (exec_addV rfl (by omega) rfl (by kernel_rfl) (by kernel_rfl)) ?_
  refine j_pure 50 rfl rfl rfl (exec_tailH (k := i + 1) (n := cap + 1) (b := gN) (ad := 0) (cp := G) (by omega) (by omega) h13 rfl (by kernel_rfl) (by kernel_rfl)) ?_
  refine j_pure 51 (v := .slice (some ⟨g, 0, none⟩) cap cap) rfl rfl rfl (fun w => by kernel_rfl) ?_
  refine j_pure 52 (v := .int .i64 i) rfl rfl rfl (fun w => by kernel_rfl) ?_
  refine j_pure 53 rfl rfl rfl (exec_tailH (k := i) (n := cap) (b := g) (ad := 0) (cp := cap) (by omega) (by omega) h6 rfl (by kernel_rfl) (by kernel_rfl)) ?_
  intro wa hI
  have c0 := (Below.block hI gN ((Array.getElem?_eq_some_iff.1 HA0.out).1)).trans HA0.out
  have c1 := (Below.block hI g ((Array.getElem?_eq_some_iff.1 HA1.out).1)).trans HA1.out
  refine u_val (v := goInt (cap - i : Nat)) rfl rfl (exec_copyK rfl (by kernel_rfl) (by kernel_rfl) (H2.out wa c0 c1 _)) trivial ?_
  simp only [runsU, List.getElem_toArray, List.getElem_cons_succ, List.getElem_cons_zero, Act.put, List.setIfInBounds_toArray, List.set_cons_zero, List.set_cons_succ]
  have HO := Lib.hid (HF.out _ (setRow_heap wa gN r1.toArray r2.toArray _ _ c0))
  have HBz : Hid (Below B w (wa.setRow gN r2.toArray)) := Lib.hid ((HB2.out.trans (Below.mono hI HB2.out.size |> fun h => ⟨h.os, h.tape, h.output, h.size, fun j hj => Below.block hI j (by have h1 := HB2.out.size; have h2 := hB2.out; omega)⟩)).trans (below_row HBN.out _))
  clear c0 c1 hI
  generalize wa.setRow gN r2.toArray = W3 at *
  go_wp2_with fail
  go_ret
  exact ⟨gN, G, rfl, HO.out, HBz.out⟩
end Go.Proofs.Ytghfplmpfgkmeaa.chance
