/- Planes: nine cards of an array sorted, planeOf and PlaneOf. -/
import Derived.Test.YtdhcdogmbclhaaaYd
import Derived.Test.YtdhcdogmbclhaaaYc
import Derived.Test.YtdhcdogmbclhaaaSd
namespace Go.Proofs.Ytdhcdogmbclhaaa.planes
open Go.RowKit
open cards reg
set_option linter.unusedVariables false

theorem vb_holds {w : World} {g : Nat} {T : TypeId} {l : List Cd} (h : VB w g T (av l)) : Go.Sort.HoldsK Cd.cells 4 w g 0 l.toArray := by
  intro j hj
  have hj' : j < l.length * 4 := by simpa using hj
  refine ⟨?_, h.frozen (0 + j)⟩
  have hf := flat_get l j hj'
  rw [Nat.zero_add, h.at_ (j := j) (v := (l.toArray[j / 4]!).cells[j % 4]!) (by simpa using hf)]
  have := Go.Sort.get_flatK Cd.cells 4 l.toArray j (by simpa using hj')
  rw [this]; rfl
theorem vb_put {w : World} {g : Nat} {T : TypeId} {l l' : List Cd} (hl : l'.length = l.length) (h : VB w g T (av l)) (q : Nat) (os : Array Obj) :
    VB (Go.Sort.grow (Go.Sort.putRowK Cd.cells 4 (Go.Sort.ahead w q) g 0 l'.toArray) os) g T (av l') ∧ w.grownBy (Go.Sort.grow (Go.Sort.putRowK Cd.cells 4 (Go.Sort.ahead w q) g 0 l'.toArray) os) (some g) := by
  have hh : ∀ k, (Go.Sort.putRowK Cd.cells 4 (Go.Sort.ahead w q) g 0 l'.toArray).heap[k]? = if g = k then (w.heap[k]?).map (Go.Sort.onCells (Go.Sort.putCells id 0 (Go.Sort.flatK Cd.cells 4 l'.toArray))) else w.heap[k]? := fun k => by
    unfold Go.Sort.putRowK Go.Sort.putRow Go.Sort.mapBlock Go.Sort.ahead
    simp only [Array.getElem?_modify]
  have hsz : (Go.Sort.putRowK Cd.cells 4 (Go.Sort.ahead w q) g 0 l'.toArray).heap.size = w.heap.size := by
    unfold Go.Sort.putRowK Go.Sort.putRow Go.Sort.mapBlock Go.Sort.ahead
    simp
  have hlt := h.lt
  have hF : (Go.Sort.flatK Cd.cells 4 l'.toArray).size = l.length * 4 := by rw [Go.Sort.size_flatK]; simp [hl]
  have hE : Go.Sort.putCells id 0 (Go.Sort.flatK Cd.cells 4 l'.toArray) (av l) = av l' := by
    apply Array.ext_getElem?
    intro t
    have hfk : (Go.Sort.flatK Cd.cells 4 l'.toArray).toList = flat l' := flatK_flat l'
    unfold Go.Sort.putCells
    rw [Array.getElem?_mapIdx]
    by_cases htn : t < l.length * 4
    · have htc : t < (av l).size := by rw [av_size]; omega
      rw [Array.getElem?_eq_getElem htc]
      simp only [Option.map_some]
      rw [if_pos ⟨Nat.zero_le _, by omega⟩, Nat.sub_zero, getElem!_pos _ t (by omega)]
      have h2 : (av l')[t]? = (Go.Sort.flatK Cd.cells 4 l'.toArray)[t]? := by rw [← Array.getElem?_toList, ← Array.getElem?_toList, hfk]
      rw [h2, Array.getElem?_eq_getElem (by omega)]
      rfl
    · rw [Array.getElem?_eq_none (by rw [av_size]; omega), Array.getElem?_eq_none (by rw [av_size, hl]; omega)]
      rfl
  refine ⟨?_, ⟨rfl, rfl, rfl, ?_, fun k hk hne => ?_⟩⟩
  · unfold VB at h ⊢
    show (_ ++ os)[g]? = _
    rw [Array.getElem?_append_left (by rw [hsz]; exact hlt), hh, if_pos rfl, h]
    show some (Obj.cells (Go.Sort.putCells id 0 (Go.Sort.flatK Cd.cells 4 l'.toArray) (av l)) T) = _
    rw [hE]
  · show w.heap.size ≤ (_ ++ os).size
    rw [Array.size_append, hsz]; omega
  · show (_ ++ os)[k]? = _
    rw [Array.getElem?_append_left (by rw [hsz]; exact hk), hh, if_neg (fun e => hne (by rw [e]))]
theorem sort_arr (l : List Cd) (g n cap : Nat) (T : TypeId) (w : World) (hn : l.length = n) (hl : n ≤ 1000) (hV : VB w g T (av l)) :
    Calls Try.prog 80 #[.slice (some ⟨g, 0, none⟩) n cap, .func (.func 77) #[] #[]] w fun e w' => e = .returned (.tuple #[]) ∧ ∃ l' : List Cd, l'.Perm l ∧ l'.length = n ∧ (∀ i j, i < j → j < n → ¬ cmpC l'[j]! l'[i]! < 0) ∧ VB w' g T (av l') ∧ w.grownBy w' (some g) := by
  have eg : ∀ args w, (callFunc 77 args).run Try.prog w = .ok (.enter 77 args) w := enters_of Try.func77 (by kernel_rfl) rfl
  have hcon := Go.Proofs.AnyQ.slices_SortFunc Go.Proofs.Try.sortCd 4 Try.isAgg33 Try.sizeOf33 Cd.cells (fun _ => rfl) (fun x v hv => by simp [Cd.cells] at hv; rcases hv with rfl | rfl | rfl | rfl <;> rfl) cmpC swoC 77 #[] g 0 cap l.toArray w eg (cmp_lays g 0 _ w) (vb_holds hV) hV.lt (by simp; omega)
  have hsz : l.toArray.size = n := by simpa using hn
  rw [hsz] at hcon
  change Calls Try.prog 80 _ _ _ at hcon
  refine hcon.mono ?_
  rintro e w' ⟨rfl, d', q, os, ⟨hp1, hp2, hp3⟩, hs, rfl⟩
  have hd : d'.size = n := by rw [hp1, hsz]
  have e1 : (d'.extract 0 n).toList = d'.toList := by rw [← hd]; simp
  have e2 : (l.toArray.extract 0 n).toList = l := by rw [← hsz]; simp
  rw [e1, e2] at hp3
  have hlen : d'.toList.length = n := by simpa using hd
  have ho := vb_put (q := q) (os := os) (by rw [hlen, hn]) hV
  refine ⟨rfl, d'.toList, hp3, hlen, fun i j hij hj => ?_, ?_, ?_⟩
  · have := hs i j (Nat.zero_le _) hij hj
    rw [ltC, decide_eq_false_iff_not] at this
    have g1 : d'.toList[j]! = d'[j]! := by simp [getElem!_def]
    have g2 : d'.toList[i]! = d'[i]! := by simp [getElem!_def]
    rw [g1, g2]; exact this
  · have h := ho.1; rw [Array.toArray_toList] at h; exact h
  · have h := ho.2; rw [Array.toArray_toList] at h; exact h
theorem store_s9 {ops : Array Oper} {rest : List Oper} {o : Oper} {a : Act} {w : World} {Q : Exit → Act → World → Prop} (hgd : o.guard = none) (x y : Operand) (ho : o.op = .store 37 x y) {g : Nat} {cs : Array Value} (h : VB w g 37 cs) (hs : cs.size = 36) (hx : a.eval x = .pointer (some ⟨g, 0, none⟩))
    (cs2 : Array Value) (hs2 : cs2.size = 36) (h1 : cs2.all (·.oneCell') = true) (hy : a.eval y = .agg cs2) (hk : ∀ w', VB w' g 37 cs2 → w.grownBy w' (some g) → wpList Try.prog ops Q rest (a.put o.dst undef) w') : wpList Try.prog ops Q (o :: rest) a w :=
  store_vb hgd 37 x y ho h (by rw [hs]; exact av_info) hx cs2 (by rw [hs, hs2]) h1 hy hk
theorem take_s9 {ops : Array Oper} {rest : List Oper} {o : Oper} {a : Act} {w : World} {Q : Exit → Act → World → Prop} (hgd : o.guard = none) (x : Operand) (ho : o.op = .load 37 x) {g : Nat} {cs : Array Value} (h : VB w g 37 cs) (hs : cs.size = 36) (hx : a.eval x = .pointer (some ⟨g, 0, none⟩))
    (hk : wpList Try.prog ops Q rest (a.put o.dst (.agg cs)) w) : wpList Try.prog ops Q (o :: rest) a w := take_vb hgd 37 x ho h Try.underlying37 (by rw [hs]; exact av_info) hx hk
theorem z36_size : z36.size = 36 := by kernel_rfl
theorem z36_one : z36.all (·.oneCell') = true := by kernel_rfl
theorem av_sq_size (a b c : Cd) : (av (sq a b c)).size = 36 := by rw [av_size]; rfl
theorem av_size9 {l : List Cd} (h : l.length = 9) : (av l).size = 36 := by rw [av_size, h]

set_option maxRecDepth 100000 in
set_option maxHeartbeats 8000000 in
theorem plane_of (a b c : Cd) (w : World) (h : triB a b c = true) :
    Calls Try.prog 56 #[a.val, b.val, c.val] w fun e w' => e = .returned (.agg (av (span [a, b, c]))) ∧ (span [a, b, c]).length = 9 ∧ Below w.heap.size w w' := by
  obtain ⟨ha, hb, hc⟩ := triB_ok h
  have HQ := Lib.hid (fun w => square_of a b c w ha hb hc)
  have HND := Lib.hid (sq_nodup h)
  have HSp := Lib.hid (sq_span ha hb hc)
  have HZ := Lib.hid z36_size
  have HS0 := Lib.hid (av_sq_size a b c)
  have HS1 := Lib.hid (av_one (sq a b c))
  clear ha hb hc h
  have K0 : Hid (Box ((((w.alloc a.obj).alloc b.obj).alloc c.obj).alloc (.cells z36 37)) (w.heap.size) a) := Lib.hid ((((Box.newAt rfl rfl).alloc _).alloc _).alloc _)
  have K1 : Hid (Box ((((w.alloc a.obj).alloc b.obj).alloc c.obj).alloc (.cells z36 37)) (w.heap.size + 1) b) := Lib.hid (((Box.newAt (by simp) rfl).alloc _).alloc _)
  have K2 : Hid (Box ((((w.alloc a.obj).alloc b.obj).alloc c.obj).alloc (.cells z36 37)) (w.heap.size + 1 + 1) c) := Lib.hid ((Box.newAt (by simp) rfl).alloc _)
  have K6 : Hid (VB ((((w.alloc a.obj).alloc b.obj).alloc c.obj).alloc (.cells z36 37)) (w.heap.size + 1 + 1 + 1) 37 z36) := Lib.hid (VB.newAt (by simp) rfl)
  have HB : Hid (Below w.heap.size w ((((w.alloc a.obj).alloc b.obj).alloc c.obj).alloc (.cells z36 37))) := Lib.hid (((((Below.refl _ _).alloc (Nat.le_refl _) _).alloc (by simp) _).alloc (by simp; omega) _).alloc (by simp; omega) _)
  go_enter Try.func56, Try.ntmps56
  go_upto_region 1 with fail
  obtain ⟨g6, hg6⟩ : ∃ g, w.heap.size + 1 + 1 + 1 = g := ⟨_, rfl⟩
  have HG := Lib.hid (show w.heap.size ≤ g6 by omega)
  rw [hg6] at K6
  try rw [hg6]
  clear hg6
  generalize (((w.alloc a.obj).alloc b.obj).alloc c.obj).alloc (.cells z36 37) = W at *
  obtain ⟨k0a, k0b, k0c, k0d⟩ := K0.out.cell
  obtain ⟨k1a, k1b, k1c, k1d⟩ := K1.out.cell
  obtain ⟨k2a, k2b, k2c, k2d⟩ := K2.out.cell
  go_wp2_with fail
  refine (HQ.out _).mono ?_
  rintro e w2 ⟨rfl, b2⟩
  have K62 := Lib.hid ((K6.out.below b2).alloc (.cells z36 37))
  have K7 : Hid (VB (w2.alloc (.cells z36 37)) w2.heap.size 37 z36) := Lib.hid (VB.newAt rfl rfl)
  have h67 : g6 < w2.heap.size := Nat.lt_of_lt_of_le K6.out.lt b2.size
  have HB2 := Lib.hid ((chain0 HB.out b2).alloc (Nat.le_trans HB.out.size b2.size) (.cells z36 37))
  clear k0a k0b k0c k0d k1a k1b k1c k1d k2a k2b k2c k2d K0 K1 K2 K6 HB b2
  go_upto_region 2 with ((with_reducible refine store_s9 rfl _ _ rfl K7.out HZ.out ?_ (av (sq a b c)) HS0.out HS1.out ?_ ?_); rfl; rfl; intro w3 hM hG)
  have hw2 : w.heap.size ≤ w2.heap.size := by have := HG.out; omega
  have K63 := Lib.hid (VB.marked K62.out hG (fun e => by injection e with e; omega))
  have HB3 := Lib.hid (HB2.out.grown hG HB2.out.size (fun k hk => by injection hk with hk; omega))
  have HM := Lib.hid hM
  clear hM hG K62 K7 HB2
  obtain ⟨g7, hg7⟩ : ∃ g, w2.heap.size = g := ⟨_, rfl⟩
  rw [hg7] at HM hw2 h67
  try rw [hg7]
  clear hg7
  go_wp2_with fail
  refine (sort_arr (sq a b c) g7 9 9 37 _ (sq_len a b c) (by omega) HM.out).mono ?_
  rintro e w4 ⟨rfl, l', hp, hl', hss, hV, hG⟩
  have HE := Lib.hid ((sorted_allPut (sq_ok a b c) HND.out hp hl' hss).trans HSp.out)
  have HL := Lib.hid (show (span [a, b, c]).length = 9 by rw [← HE.out]; exact hl')
  rw [HE.out] at hV
  have HV := Lib.hid hV
  have K64 := Lib.hid (VB.marked K63.out hG (fun e => by injection e with e; omega))
  have HB4 := Lib.hid (HB3.out.grown hG HB3.out.size (fun k hk => by injection hk with hk; omega))
  have HSz := Lib.hid (av_size9 HL.out)
  have HSo := Lib.hid (av_one (span [a, b, c]))
  clear hp hl' hss hV hG K63 HB3 HM
  go_wp2_with (first | ((with_reducible refine take_s9 rfl _ rfl HV.out HSz.out ?_ ?_); rfl) | ((with_reducible refine store_s9 rfl _ _ rfl K64.out HZ.out ?_ (av (span [a, b, c])) HSz.out HSo.out ?_ ?_); rfl; rfl; intro w5 hM hG))
  try simp only [Exit.inBlock, Exit.then]
  refine bodyPost_ret (res_vb Try.results56 rfl hM Try.underlying37 (av_info9 HL.out)) rfl ?_
  exact ⟨rfl, HL.out, HB4.out.grown hG HB4.out.size (fun k hk => by injection hk with hk; have := HG.out; omega)⟩
end Go.Proofs.Ytdhcdogmbclhaaa.planes
