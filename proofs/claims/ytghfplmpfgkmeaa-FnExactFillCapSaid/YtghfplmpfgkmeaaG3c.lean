/- slices.Insert of a card, at the type [][4]int: at the end, with room, and without. -/
import Derived.Test.YtghfplmpfgkmeaaG3b
import Derived.Lib.AppendZeros
import Derived.Deep.Cut
namespace Go.Proofs.Ytghfplmpfgkmeaa.chance
open Go.RowKit
open cards reg
set_option linter.unusedVariables false

theorem below_row {w : World} {g : Nat} {B : Nat} (hB : B ≤ g) (cs : Array Value) : Below B w (w.setRow g cs) := ⟨rfl, rfl, rfl, by simp [World.setRow], fun k hk => setRow_other w g k cs (by omega)⟩
theorem exec_addV {u v r : Int} (hr : u + v = r) (h : -1000000 ≤ r ∧ r ≤ 1000000) {a : Act} {o : Oper} {p q : Operand} {s : TypeId} (ho : o.op = .binOp .add 3 p q s) (hp : a.eval p = .int .i64 u) (hq : a.eval q = .int .i64 v) (w : World) :
    (execOp a.eval o).run Try.prog w = .ok (.value (.int .i64 r)) w := by
  subst hr
  unfold execOp
  rw [ho]
  simp only [hp, hq]
  go_simp
  exact IntWalk.i64_in _ (by omega)
theorem exec_tailH {k n b ad cp : Nat} (hk : k ≤ n) (hn : n ≤ cp) (hne : ¬ cp = k) {a : Act} {o : Oper} {p q : Operand} (ho : o.op = .slice 22 p (some q) none none) (hp : a.eval p = .slice (some ⟨b, ad, none⟩) n cp) (hq : a.eval q = .int .i64 k) (w : World) :
    (execOp a.eval o).run Try.prog w = .ok (.value (.slice (some ⟨b, ad + k * 4, none⟩) (n - k) (cp - k))) w := by
  have h0 : (0 : Int) ≤ (k : Int) := by omega
  have h1 : (k : Int) ≤ (n : Int) := by omega
  have h2 : (n : Int) ≤ (cp : Int) := by omega
  unfold execOp
  rw [ho]
  simp only [hp, hq, Option.map]
  go_simp
theorem addrP (b o j : Nat) : (⟨b, o, none⟩ : Addr).add j = ⟨b, o + j, none⟩ := by unfold Addr.add; split <;> simp_all
theorem flat_1c (l : List Cd) : ∀ v ∈ flat l, v.oneCell' = true := by
  intro v hv
  simp only [flat, List.mem_flatMap] at hv
  obtain ⟨x, _, hx⟩ := hv
  simp [Cd.cells] at hx
  rcases hx with rfl | rfl | rfl | rfl <;> rfl
theorem cells_1c (x : Cd) : ∀ v ∈ x.cells, v.oneCell' = true := by
  intro v hv
  simp [Cd.cells] at hv
  rcases hv with rfl | rfl | rfl | rfl <;> rfl
/-- What a slice of cards held is in its block. -/
theorem own_parts {w : World} {B g n cap : Nat} {l : List Cd} (h : Own w B (.slice (some ⟨g, 0, none⟩) n cap) l) (hn : l.length = n) : ∃ cur : Array Value, B ≤ g ∧ w.heap[g]? = some (.cells cur 32 (0, 0)) ∧ n ≤ cap ∧ cap ≤ maxLen ∧ cur.size = cap * 4 ∧ cur.toList.take (n * 4) = flat l := by
  obtain ⟨hl, ⟨e, _⟩ | ⟨g1, cap1, cur1, e1, hB1, hg1, hn1, hc1, hs1, ht1⟩⟩ := h
  · simp at e
  · injection e1 with e1 _ e1c
    injection e1 with e1
    injection e1 with e1
    subst e1; subst e1c
    rw [hn] at hn1 ht1
    exact ⟨cur1, hB1, hg1, hn1, hc1, hs1, ht1⟩
theorem own_of {w : World} {B g n cap : Nat} {l : List Cd} {r : List Value} (hB : B ≤ g) (hg : w.heap[g]? = some (.cells r.toArray 32 (0, 0))) (hn : l.length = n) (hc : n ≤ cap) (hm : cap ≤ maxLen) (hr : r.length = cap * 4) (ht : r.take (n * 4) = flat l) : Own w B (.slice (some ⟨g, 0, none⟩) n cap) l := by
  subst hn
  exact ⟨by rw [flat_len]; omega, .inr ⟨g, cap, _, rfl, hB, hg, hc, hm, by simpa using hr, by simpa using ht⟩⟩

set_option maxRecDepth 100000 in
set_option maxHeartbeats 4000000 in
theorem insert_end (l : List Cd) (x : Cd) (B g n cap gv : Nat) (w : World) (hn : l.length = n) (hl : n ≤ 1000) (hO : Own w B (.slice (some ⟨g, 0, none⟩) n cap) l) (hv : Box w gv x) (hB : B ≤ w.heap.size) :
    Calls Try.prog 24 #[.slice (some ⟨g, 0, none⟩) n cap, .int .i64 n, .slice (some ⟨gv, 0, none⟩) 1 1] w fun e w' => ∃ g' c', e = .returned (.slice (some ⟨g', 0, none⟩) (n + 1) c') ∧ Own w' B (.slice (some ⟨g', 0, none⟩) (n + 1) c') (insC l n x) ∧ Below B w w' := by
  obtain ⟨cur, hBg, hg, hnc, hcm, hcs, htk⟩ := own_parts hO hn
  have hi : insC l n x = l ++ [x] := by
    unfold insC
    rw [List.take_of_length_le (by omega), List.drop_of_length_le (by omega), List.append_nil]
  rw [hi]
  have hrun := fun ty => run_push w ty B n cap g l x gv hn hO hv (by omega) hB
  have h0 : ¬ (1 : Int) = 0 := by omega
  have h1 : (0 : Int) ≤ (n : Int) := by omega
  have h2 : (n : Int) ≤ (cap : Int) := by omega
  have HR := Lib.hid hrun
  have HBg := Lib.hid hBg
  clear hrun hO hv hg hcm hcs htk hn hi hBg
  obtain ⟨g', c', w', hr0, hO1, hc1, hO2, hG, _⟩ := HR.out 22
  have hr := hr0
  rw [← append_as 22 22 _ und_holder Try.underlying22] at hr
  have HO1 := Lib.hid hO1
  have HBw := Lib.hid (show Below B w w' from (Below.refl B w).grown hG (by omega) (fun k hk => by injection hk with hk; have := HBg.out; omega))
  clear hr0 hO1 hO2 hG HR hc1
  go_enter Try.func24, Try.ntmps24
  go_wp2_with (at_builtin; refine Lib.wpList_append_run _ rfl (.tmp 23) (.tmp 24) _ _ rfl _ _ rfl rfl _ _ hr ?_)
  all_goals
    go_ret
    exact ⟨g', c', rfl, HO1.out, HBw.out⟩

set_option maxRecDepth 100000 in
set_option maxHeartbeats 4000000 in
theorem insert_room (l : List Cd) (x : Cd) (B g n cap gv i : Nat) (w : World) (hn : l.length = n) (hl : n ≤ 1000) (hin : i < n) (hroom : n + 1 ≤ cap) (hO : Own w B (.slice (some ⟨g, 0, none⟩) n cap) l) (hv : Box w gv x) (hne : gv ≠ g) :
    Calls Try.prog 24 #[.slice (some ⟨g, 0, none⟩) n cap, .int .i64 i, .slice (some ⟨gv, 0, none⟩) 1 1] w fun e w' => e = .returned (.slice (some ⟨g, 0, none⟩) (n + 1) cap) ∧ Own w' B (.slice (some ⟨g, 0, none⟩) (n + 1) cap) (insC l i x) ∧ Below B w w' := by
  obtain ⟨cur, hBg, hg, hnc, hcm, hcs, htk⟩ := own_parts hO hn
  have hgl : g < w.heap.size := (Array.getElem?_eq_some_iff.1 hg).1
  have hcl : cur.toList.length = cap * 4 := by simpa using hcs
  -- the row, in parts
  have hparts : cur.toList = flat (l.take i) ++ (flat (l.drop i) ++ cur.toList.drop (n * 4)) := by
    rw [← List.append_assoc, ← flat_app, List.take_append_drop, ← htk, List.take_append_drop]
  have hAl : (flat (l.take i)).length = i * 4 := by rw [flat_len, List.length_take]; omega
  have hDl : (flat (l.drop i)).length = (n - i) * 4 := by rw [flat_len, List.length_drop]; omega
  have hTl : (cur.toList.drop (n * 4)).length = (cap - n) * 4 := by rw [List.length_drop, hcl]; omega
  obtain ⟨T', hrow, hT'⟩ := over_shift (flat (l.take i)) (flat (l.drop i)) (cur.toList.drop (n * 4)) x.cells rfl (by rw [hTl]; omega)
  rw [← hparts, hAl] at hrow
  obtain ⟨r1, hr1⟩ : ∃ r1, over cur.toList (i * 4 + 4) (flat (l.drop i)) = r1 := ⟨_, rfl⟩
  have hr1l : r1.length = cap * 4 := by rw [← hr1, over_len (by rw [hDl, hcl]; omega), hcl]
  rw [hr1] at hrow
  obtain ⟨r2, hr2⟩ : ∃ r2, over r1 (i * 4) x.cells = r2 := ⟨_, rfl⟩
  have hr2l : r2.length = cap * 4 := by rw [← hr2, over_len (by rw [hr1l, show x.cells.length = 4 from rfl]; omega), hr1l]
  rw [hr2] at hrow
  have hr2t : r2.take ((n + 1) * 4) = flat (insC l i x) := by
    have hll : (n + 1) * 4 = (flat (l.take i) ++ (x.cells ++ flat (l.drop i))).length := by
      rw [List.length_append, List.length_append, hAl, hDl, show x.cells.length = 4 from rfl]; omega
    rw [hrow, insC_flat, show flat (l.take i) ++ (x.cells ++ (flat (l.drop i) ++ T')) = (flat (l.take i) ++ (x.cells ++ flat (l.drop i))) ++ T' by simp, hll, List.take_left]
  -- the two copies
  have hi1 : Nat.min (n + 1 - i) (n + 1 - (i + 1)) = n - i := by simp only [Nat.min_def]; split <;> omega
  have hcp1 : ∀ (W : World), W.heap[g]? = some (.cells cur 32 (0, 0)) → ∀ ty, (Builtin.copy_ #[22, 22] ty #[.slice (some ⟨g, 0 + (i + 1) * 4, none⟩) (n + 1 - (i + 1)) (cap - (i + 1)), .slice (some ⟨g, 0 + i * 4, none⟩) (n + 1 - i) (cap - i)]).run Try.prog W = .ok (goInt (n - i : Nat)) (W.setRow g r1.toArray) := fun W hW ty => by
    have h := run_copy_rowK (P := Try.prog) W 22 22 ty 32 4 g (0 + (i + 1) * 4) (n + 1 - (i + 1)) (cap - (i + 1)) ⟨g, 0 + i * 4, none⟩ (n + 1 - i) (cap - i) cur 32 (flat (l.drop i)) und_holder hold_info hW (by rw [hi1, hDl])
      (fun j v hj => by
        rw [addrP, cell_of_row W g _ _ _ _ hW]
        have hlt := (List.getElem?_eq_some_iff.1 hj).1
        have h2 : (flat l)[i * 4 + j]? = some v := by
          have h3 : flat l = flat (l.take i) ++ flat (l.drop i) := by rw [← flat_app, List.take_append_drop]
          rw [h3, List.getElem?_append_right (by rw [hAl]; omega), hAl, show i * 4 + j - i * 4 = j by omega]
          exact hj
        rw [← htk, List.getElem?_take_of_lt (by rw [hDl] at hlt; omega)] at h2
        rw [show 0 + i * 4 + j = i * 4 + j by omega]
        simpa using h2) (by rw [hDl, hcs]; omega) (flat_1c _)
    rw [hi1] at h
    rw [h, show 0 + (i + 1) * 4 = i * 4 + 4 by omega, hr1]
  have hi2 : Nat.min 1 (n + 1 - i) = 1 := by simp only [Nat.min_def]; split <;> omega
  have hcp2 : ∀ (W : World), W.heap[g]? = some (.cells r1.toArray 32 (0, 0)) → Box W gv x → ∀ ty, (Builtin.copy_ #[22, 22] ty #[.slice (some ⟨g, 0 + i * 4, none⟩) (n + 1 - i) (cap - i), .slice (some ⟨gv, 0, none⟩) 1 1]).run Try.prog W = .ok (goInt (1 : Nat)) (W.setRow g r2.toArray) := fun W hW hb ty => by
    have h := run_copy_rowK (P := Try.prog) W 22 22 ty 32 4 g (0 + i * 4) (n + 1 - i) (cap - i) ⟨gv, 0, none⟩ 1 1 r1.toArray 32 x.cells und_holder hold_info hW (by rw [hi2]; rfl)
      (fun j v hj => by
        rw [addrP, cell_of_row W gv _ _ _ _ hb, Nat.zero_add]
        simpa [Cd.cells] using hj) (by rw [show x.cells.length = 4 from rfl]; simp; omega) (cells_1c x)
    rw [hi2] at h
    rw [h, List.toList_toArray, Nat.zero_add, hr2]
  have hov : ∀ lb cb, (callFunc 35 #[.slice (some ⟨gv, 0, none⟩) 1 1, .slice (some ⟨g, 0 + (i + 1) * 4, none⟩) lb cb]).run Try.prog w = .ok (.value (.bool false)) w := fun lb cb => by
    have hz : ∀ w : World, (Go.sizeOf 32).run Try.prog w = .ok 4 w := fun w => by
      obtain ⟨i0, hi0, _, hs0, _⟩ := info_parts a4info
      simp [sizeOf, typeInfo, hi0, hs0]
    have hsa : w.shape? gv = some (32, 4) := by
      have h : w.heap[gv]? = some x.obj := hv
      simp [World.shape?, h]
    have hsb : w.shape? g = some (32, cap * 4) := by simp [World.shape?, hg, hcs]
    rw [run_callFunc_extern Try.func35 (by kernel_rfl) (by kernel_rfl) (by kernel_rfl) (e := Extern.SlicesOverlaps.overlaps #[22, 22] #[4]) (by kernel_rfl),
      Lib.run_overlaps_apart w 22 4 32 Try.underlying22 4 hz ⟨gv, 0, none⟩ ⟨g, 0 + (i + 1) * 4, none⟩ 1 1 lb cb hne 32 32 4 (cap * 4) hsa hsb (by omega) (Box.frozen hv 0) (Box.frozen hv 4)]
    rfl
  have HOV := Lib.hid hov
  have HG := Lib.hid hg
  have HGl := Lib.hid hgl
  have HBg := Lib.hid hBg
  have HV := Lib.hid hv
  have H1 := Lib.hid hcp1
  have H2 := Lib.hid hcp2
  have HF : Hid (∀ W : World, W.heap[g]? = some (.cells r2.toArray 32 (0, 0)) → Own W B (.slice (some ⟨g, 0, none⟩) (n + 1) cap) (insC l i x)) := Lib.hid (fun W hW => own_of hBg hW (by rw [insC_len, hn]) hroom hcm hr2l hr2t)
  clear hcp1 hcp2 hparts hAl hDl hTl hrow hT' hr1 hr1l hr2 hr2l hr2t hi1 hi2 hg hgl hBg hcs hcl htk hO hn hv hov
  have h0 : ¬ (1 : Int) = 0 := by omega
  have h1 : (0 : Int) ≤ (i : Int) := by omega
  have h2 : (i : Int) ≤ (n : Int) := by omega
  have h3 : (n : Int) ≤ (cap : Int) := by omega
  have h4 : ¬ (i : Int) = (n : Int) := by omega
  have h5 : ¬ (cap : Int) < (n : Int) + 1 := by omega
  have h6 : ¬ cap = i := by omega
  have h7 : ¬ cap = i + 1 := by omega
  have h8 : (i : Int) + 1 ≤ (n : Int) + 1 := by omega
  have h9 : ((i : Int) + 1).toNat = i + 1 := by omega
  have h10 : ((n : Int) + 1).toNat = n + 1 := by omega
  have h11 : (n : Int) + 1 ≤ (cap : Int) := by omega
  have h12 : (cap : Int) ≤ 9223372036854775807 := by simp only [maxLen] at hcm; omega
  have hov := HOV.out
  simp only [Nat.zero_add] at hov
  go_enter Try.func24, Try.ntmps24
  go_upto_region 15 with (simp only [hov])
  refine region_seq [0, 1, 2, 3, 4, 5, 6, 7] [8] (by kernel_rfl) (by kernel_rfl) rfl (by kernel_rfl) (fun _ => True) (fun _ _ => trivial) ?_
  refine j_pure 69 (v := .slice (some ⟨g, 0, none⟩) (n + 1) cap) rfl rfl rfl (fun w => by kernel_rfl) ?_
  refine j_pure 70 (v := .int .i64 i) rfl rfl rfl (fun w => by kernel_rfl) ?_
  refine j_pure 71 (v := .int .i64 1) rfl rfl rfl (fun w => by kernel_rfl) ?_
  refine j_pure 72 (v := .int .i64 ((i : Int) + 1)) rfl rfl rfl (exec_addV rfl (by omega) rfl (by kernel_rfl) (by kernel_rfl)) ?_
  refine j_pure 73 rfl rfl rfl (exec_tailH (k := i + 1) (n := n + 1) (b := g) (ad := 0) (cp := cap) (by omega) hroom h7 rfl (by kernel_rfl) (by kernel_rfl)) ?_
  refine j_pure 74 (v := .slice (some ⟨g, 0, none⟩) (n + 1) cap) rfl rfl rfl (fun w => by kernel_rfl) ?_
  refine j_pure 75 (v := .int .i64 i) rfl rfl rfl (fun w => by kernel_rfl) ?_
  refine j_pure 76 rfl rfl rfl (exec_tailH (k := i) (n := n + 1) (b := g) (ad := 0) (cp := cap) (by omega) hroom h6 rfl (by kernel_rfl) (by kernel_rfl)) ?_
  intro wa hI
  have hga := (Below.block hI g HGl.out).trans HG.out
  have hva : Box wa gv x := Box.below HV.out hI
  refine u_val (v := goInt (n - i : Nat)) rfl rfl (exec_copyK rfl (by kernel_rfl) (by kernel_rfl) (H1.out wa hga _)) trivial ?_
  simp only [runsU, List.getElem_toArray, List.getElem_cons_succ, List.getElem_cons_zero, Act.put, List.setIfInBounds_toArray, List.set_cons_zero, List.set_cons_succ]
  have hgb : (wa.setRow g r1.toArray).heap[g]? = some (.cells r1.toArray 32 (0, 0)) := setRow_heap _ g cur _ _ _ hga
  have hvb : Box (wa.setRow g r1.toArray) gv x := (setRow_other wa g gv r1.toArray hne).trans hva
  have HBb : Hid (Below B w (wa.setRow g r1.toArray)) := Lib.hid (((Below.refl B w).trans (Below.mono hI (by have := HBg.out; have := HGl.out; omega))).trans (below_row HBg.out _))
  have h3' := H2.out _ hgb hvb
  simp only [Nat.zero_add] at h3'
  have H3 := Lib.hid h3'
  have H4 := Lib.hid hgb
  clear h3'
  clear hga hva hgb hvb hI
  generalize wa.setRow g r1.toArray = wb at *
  go_wp2_with (refine list_copy rfl (.tmp 80) (.tmp 81) 22 22 (.slice (some ⟨g, i * 4, none⟩) (n + 1 - i) (cap - i)) (.slice (some ⟨gv, 0, none⟩) 1 1) _ _ rfl rfl rfl (H3.out _) ?_)
  go_ret
  exact ⟨rfl, HF.out _ (setRow_heap _ g r1.toArray _ _ _ H4.out), HBb.out.trans (below_row HBg.out _)⟩
end Go.Proofs.Ytghfplmpfgkmeaa.chance
