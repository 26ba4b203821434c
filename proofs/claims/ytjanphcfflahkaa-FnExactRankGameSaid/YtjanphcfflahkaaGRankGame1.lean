/- Merged texts: W3, W4, W5, W6. -/
import Derived.Test.YtjanphcfflahkaaGRankGame0
import Derived.Shelf.SlLaysF
import Derived.Shelf.SlSortCmp.Xorshift
import Derived.BigQuiet
import Derived.Maps.AppendAt
import Derived.Deep.DeepCutAuto
/- Ranks: the players' numbers sorted by the program's closure. -/
namespace Go.Proofs.Ytjanphcfflahkaa.game
open Go.RowKit
open cards deal reg
set_option linter.unusedVariables false

theorem sw_grown {α : Type} [Inhabited α] {enc : α → Value} {w : World} {g o m : Nat} {d : Array α} {os : Array Obj} : w.grownBy (sortWorld enc w g o m d os) (some g) := by
  have hh : ∀ k, (Go.Sort.putRow enc (Go.Sort.ahead w m) g o d).heap[k]? = if g = k then (w.heap[k]?).map (Go.Sort.onCells (Go.Sort.putCells enc o d)) else w.heap[k]? := fun k => by
    unfold Go.Sort.putRow Go.Sort.mapBlock Go.Sort.ahead
    simp only [Array.getElem?_modify]
  have hsz : (Go.Sort.putRow enc (Go.Sort.ahead w m) g o d).heap.size = w.heap.size := by
    unfold Go.Sort.putRow Go.Sort.mapBlock Go.Sort.ahead
    simp
  refine ⟨rfl, rfl, rfl, ?_, fun k hk hne => ?_⟩
  · show w.heap.size ≤ (_ ++ os).size
    rw [Array.size_append, hsz]; omega
  · show (_ ++ os)[k]? = _
    rw [Array.getElem?_append_left (by rw [hsz]; exact hk), hh, if_neg (fun e => hne (by rw [e]))]
/-- A number below k + 1 as a value. -/
def encF (k : Nat) (i : Fin (k + 1)) : Value := .int .i64 (i.val : Int)
theorem encF_one (k : Nat) : OneCell (encF k) := fun _ => rfl
def finL {n : Nat} (l : List (Fin n)) : List Nat := l.map (·.val)
theorem rowF_holds {k : Nat} {w : World} {B g cap : Nat} {l : List (Fin (k + 1))} {n : Nat} (hn : l.length = n) (h : OwnI w B (.slice (some ⟨g, 0, none⟩) n cap) (casts (finL l))) : Go.Sort.Holds (encF k) w g 0 l.toArray := by
  subst hn
  intro j hj
  have hj' : j < l.length := by simpa using hj
  have h' : w.ownsRow B 3 1 (.slice (some ⟨g, 0, none⟩) l.length cap) l.length (ints (casts (finL l))) := by
    have e : (casts (finL l)).length = l.length := by simp [casts, finL]
    have h2 := h
    unfold OwnI at h2
    rw [e] at h2
    exact h2
  refine ⟨?_, World.ownsRow.frozenAt h' (0 + j)⟩
  rw [Nat.zero_add, World.ownsRow.cellAt h' j (by omega)]
  simp [ints, casts, finL, encF, hj']
theorem rowF_put {k : Nat} {w : World} {B g cap : Nat} {l l' : List (Fin (k + 1))} {n : Nat} (hn : l.length = n) (hl : l'.length = n) (h : OwnI w B (.slice (some ⟨g, 0, none⟩) n cap) (casts (finL l))) (q : Nat) (os : Array Obj) :
    OwnI (sortWorld (encF k) w g 0 q l'.toArray os) B (.slice (some ⟨g, 0, none⟩) n cap) (casts (finL l')) := by
  have hh : ∀ j, (Go.Sort.putRow (encF k) (Go.Sort.ahead w q) g 0 l'.toArray).heap[j]? = if g = j then (w.heap[j]?).map (Go.Sort.onCells (Go.Sort.putCells (encF k) 0 l'.toArray)) else w.heap[j]? := fun j => by
    unfold Go.Sort.putRow Go.Sort.mapBlock Go.Sort.ahead
    simp only [Array.getElem?_modify]
  have hsz : (Go.Sort.putRow (encF k) (Go.Sort.ahead w q) g 0 l'.toArray).heap.size = w.heap.size := by
    unfold Go.Sort.putRow Go.Sort.mapBlock Go.Sort.ahead
    simp
  have e : (casts (finL l)).length = l.length := by simp [casts, finL]
  have e' : (casts (finL l')).length = l'.length := by simp [casts, finL]
  obtain ⟨h0, ⟨e, _⟩ | ⟨g', cap', cur, e, hB, hg, hc, hm, hs, ht⟩⟩ := h
  · exact absurd e (by simp)
  · injection e with e1 e2 e3
    injection e1 with e1
    injection e1 with e1
    subst e1; subst e3
    have hlt : g < w.heap.size := (Array.getElem?_eq_some_iff.1 hg).1
    refine ⟨by rw [ints_len]; omega, .inr ⟨g, cap, Go.Sort.putCells (encF k) 0 l'.toArray cur, by rw [e', hl], hB, ?_, by omega, hm, ?_, ?_⟩⟩
    · show (_ ++ os)[g]? = _
      rw [Array.getElem?_append_left (by rw [hsz]; exact hlt), hh, if_pos rfl, hg]
      rfl
    · unfold Go.Sort.putCells; rw [Array.size_mapIdx]; exact hs
    · apply List.ext_getElem?
      intro t
      by_cases htn : t < l'.length
      · have htc : t < cur.size := by rw [hs]; omega
        rw [List.getElem?_take_of_lt (by omega), Array.getElem?_toList]
        unfold Go.Sort.putCells
        rw [Array.getElem?_mapIdx, Array.getElem?_eq_getElem htc]
        simp only [Option.map_some]
        rw [if_pos ⟨Nat.zero_le _, by simpa using htn⟩, Nat.sub_zero]
        simp [ints, casts, finL, encF, htn]
      · rw [List.getElem?_eq_none (by rw [List.length_take]; omega), List.getElem?_eq_none (by rw [ints_len]; omega)]
section
variable (pv wv : Nat → Int)
def cfF (k : Nat) (i j : Fin (k + 1)) : Int := cfR (pv i.val) (pv j.val) (wv i.val) (wv j.val) i.val j.val
end
variable {pv wv : Nat → Int}
theorem cfF_neg {k : Nat} {i j : Fin (k + 1)} : cfF pv wv k i j < 0 ↔ bef pv wv i.val j.val := by
  unfold cfF
  rw [cfR_neg]
  exact Iff.rfl
theorem swoF (k : Nat) : Go.Sort.SWO (ltOf (cfF pv wv k)) where
  irrefl x := by simp only [ltOf, decide_eq_false_iff_not, cfF_neg]; exact fun h => bef_asymm h h
  trans x y z h1 h2 := by simp only [ltOf, decide_eq_true_eq, cfF_neg] at *; exact bef_trans h1 h2
  ntrans x y z h1 h2 := by simp only [ltOf, decide_eq_false_iff_not, cfF_neg] at *; unfold bef at *; omega
theorem fin_range (n : Nat) : finL (List.finRange n) = List.range n := by
  apply List.ext_getElem
  · simp [finL]
  · intro i h1 h2
    simp [finL]
set_option maxRecDepth 100000 in
set_option maxHeartbeats 2000000 in
theorem bits_small (n : Nat) (w : World) (hn : n ≤ 1000000) : Calls Try.prog 108 #[.int .u64 n] w fun e w' => (∃ l : Int, e = .returned (.int .i64 l)) ∧ w' = w := by
  have h := Go.Proofs.Any.bits_Len (SlLaysF0.n15.bits (P := Try.prog) (ρ := Go.Proofs.Try.sortI_ren) { Go.Proofs.Try.sortI with }) (n : Int) w (by omega) (by omega)
  exact h.mono fun e w' h => ⟨⟨_, h.1⟩, h.2⟩
set_option maxRecDepth 100000 in
set_option maxHeartbeats 4000000 in
theorem pdq_rank (n g cap : Nat) (fv : Value) (lim : Int) (w : World) (S : World → Prop) (h12 : n ≤ 12)
    (hi : Calls Try.prog 135 #[.slice (some ⟨g, 0, none⟩) n cap, .int .i64 0, .int .i64 n, fv] w fun e w' => e = .returned (.tuple #[]) ∧ S w') :
    Calls Try.prog 107 #[.slice (some ⟨g, 0, none⟩) n cap, .int .i64 0, .int .i64 n, .int .i64 lim, fv] w fun e w' => e = .returned (.tuple #[]) ∧ S w' := by
  have HI := Lib.hid hi
  have hz : (n : Int) ≤ 12 := by omega
  clear hi
  go_enter Try.func107, Try.ntmps107
  go_wp2
  refine wp_loop_rounds 1 ?_
  rw [rounds_succ]
  go_wp2_with fail
  refine HI.out.mono ?_
  rintro e w1 ⟨rfl, h⟩
  go_wp2
  (try simp only [Exit.inBlock, Exit.then])
  refine bodyPost_ret (results_none rfl _ _ _) rfl ?_
  exact ⟨rfl, h⟩
set_option maxRecDepth 100000 in
set_option maxHeartbeats 4000000 in
theorem sortF_rank (n g cap : Nat) (fv : Value) (w : World) (S : World → Prop) (h12 : n ≤ 12)
    (hi : Calls Try.prog 135 #[.slice (some ⟨g, 0, none⟩) n cap, .int .i64 0, .int .i64 n, fv] w fun e w' => e = .returned (.tuple #[]) ∧ S w') :
    Calls Try.prog 70 #[.slice (some ⟨g, 0, none⟩) n cap, fv] w fun e w' => e = .returned (.tuple #[]) ∧ S w' := by
  have HP := Lib.hid (fun lim => pdq_rank n g cap fv lim w S h12 hi)
  have HL := Lib.hid (bits_small n w (by omega))
  have wr : IntKind.u64.wrap (n : Int) = n := by simp [IntKind.wrap, IntKind.bits, IntKind.signed]; omega
  clear hi
  go_enter Try.func70, Try.ntmps70
  go_wp2_with fail
  refine HL.out.mono ?_
  rintro e w1 ⟨⟨l, rfl⟩, rfl⟩
  go_wp2_with fail
  refine (HP.out _).mono ?_
  rintro e w1 ⟨rfl, h⟩
  go_wp2
  go_end0
  exact ⟨rfl, h⟩
theorem sort_rank {k : Nat} (l : List (Fin (k + 1))) (n g cap B b4 b1 : Nat) (w : World) (hn : l.length = n) (h12 : n ≤ 12) (hO : OwnI w B (.slice (some ⟨g, 0, none⟩) n cap) (casts (finL l)))
    (hc : CmpLays1 Try.prog 71 #[.pointer (some ⟨b4, 0, none⟩), .pointer (some ⟨b1, 0, none⟩)] (encF k) (cfF pv wv k) g 0 n w) :
    Calls Try.prog 70 #[.slice (some ⟨g, 0, none⟩) n cap, .func (.func 71) #[] #[.pointer (some ⟨b4, 0, none⟩), .pointer (some ⟨b1, 0, none⟩)]] w fun e w' => e = .returned (.tuple #[]) ∧ ∃ l' : List (Fin (k + 1)), l'.Perm l ∧ l'.Pairwise (fun a b => ¬ bef pv wv b.val a.val) ∧ OwnI w' B (.slice (some ⟨g, 0, none⟩) n cap) (casts (finL l')) ∧ w.grownBy w' (some g) := by
  subst hn
  have eg : ∀ args w, (callFunc 71 args).run Try.prog w = .ok (.enter 71 args) w := enters_of Try.func71 (by kernel_rfl) rfl
  have hH := rowF_holds rfl hO
  have hg : g < w.heap.size := (World.ownsRow.lt hO g rfl).2
  have hi := Go.Proofs.Any.insertionSortCmpFunc_s (P := Try.prog) (ρ := Go.Proofs.Try.sortI_ren) { Go.Proofs.Try.sortI with } (encF k) (cfF pv wv k) 71 #[.pointer (some ⟨b4, 0, none⟩), .pointer (some ⟨b1, 0, none⟩)] g 0 cap 0 l.length l.toArray l.toArray w w eg (by simpa using hc) ⟨encF_one k, hH, hg⟩ rfl (SW.start hH) (Nat.zero_le _) (by simp) (by simp; omega)
  have hsz : l.toArray.size = l.length := by simp
  rw [hsz] at hi
  change Calls Try.prog 135 _ _ _ at hi
  refine (sortF_rank l.length g cap _ w _ h12 hi).mono ?_
  rintro e w' ⟨rfl, m, os, rfl⟩
  obtain ⟨⟨hp1, hp2, hp3⟩, hs⟩ := Go.Sort.insertionSort_holds (lt := ltOf (cfF pv wv k)) (swoF k) l.toArray 0 l.length (Nat.zero_le _) (by simp)
  obtain ⟨d', hd'⟩ : ∃ d', Go.Sort.insertionSort (ltOf (cfF pv wv k)) l.toArray 0 l.length = d' := ⟨_, rfl⟩
  rw [hd'] at hp1 hp3 hs ⊢
  have hd : d'.size = l.length := by rw [hp1, hsz]
  have e1 : (d'.extract 0 l.length).toList = d'.toList := by rw [← hd]; simp
  have e2 : (l.toArray.extract 0 l.length).toList = l := by rw [← hsz]; simp
  rw [e1, e2] at hp3
  have ho := rowF_put (n := l.length) (l := l) (l' := d'.toList) rfl (by simpa using hd) hO m os
  rw [Array.toArray_toList] at ho
  refine ⟨rfl, d'.toList, hp3, ?_, ho, sw_grown⟩
  rw [List.pairwise_iff_getElem]
  intro i j hi2 hj hij
  have := hs i j (Nat.zero_le _) hij (by simpa [hd] using hj)
  rw [ltOf, decide_eq_false_iff_not, cfF_neg] at this
  have hj2 : j < d'.size := by simpa using hj
  rw [getElem!_pos d' i (by omega), getElem!_pos d' j hj2] at this
  simpa using this
theorem rd_sorted {w w' : World} {p : Option Addr} {xs : List Value} {g : Nat} (h : Rd w p xs) (hne : ∀ b o, p = some ⟨b, o, none⟩ → b ≠ g) (hg : w.grownBy w' (some g)) : Rd w' p xs := fun hp => by
  obtain ⟨b, o, rfl, hb, hc⟩ := h hp
  exact ⟨b, o, rfl, Nat.lt_of_lt_of_le hb hg.size, fun j v hv => (hg.cell_far ⟨b, o + j, none⟩ hb (fun e => hne b o rfl (by cases e; rfl))).trans (hc j v hv)⟩
theorem getD_at {l : List Int} {i n : Nat} (hl : l.length = n) (h : i < n) : l[i]? = some (l.getD i 0) := by
  rw [List.getD_eq_getElem?_getD, List.getElem?_eq_getElem (by omega)]; rfl
theorem rank_lays {k : Nat} (P W : List Int) (pp pw : Option Addr) (cp cw b4 b1 g n : Nat) (w : World) (hP : P.length = k + 1) (hW : W.length = k + 1) (hk : k ≤ 100)
    (c4 : w.cell? ⟨b4, 0, none⟩ = some (.slice pp (k + 1) cp)) (c1 : w.cell? ⟨b1, 4, none⟩ = some (.slice pw (k + 1) cw)) (hrP : Rd w pp (ints P)) (hrW : Rd w pw (ints W)) (h4 : b4 ≠ g) (h1 : b1 ≠ g) (hp : ∀ b o, pp = some ⟨b, o, none⟩ → b ≠ g) (hw : ∀ b o, pw = some ⟨b, o, none⟩ → b ≠ g) :
    CmpLays1 Try.prog 71 #[.pointer (some ⟨b4, 0, none⟩), .pointer (some ⟨b1, 0, none⟩)] (encF k) (cfF (fun i => P.getD i 0) (fun i => W.getD i 0) k) g 0 n w := fun m os dk hs x y => by
  have hg := sw_grown (enc := encF k) (w := w) (g := g) (o := 0) (m := m) (d := dk) (os := os)
  exact rank_cmp x.val y.val (k + 1) P W pp pw cp cw b4 b1 _ _ _ _ _ x.isLt y.isLt hP hW (by omega) (getD_at hP x.isLt) (getD_at hP y.isLt) (getD_at hW x.isLt) (getD_at hW y.isLt)
    ((hg.cell_far ⟨b4, 0, none⟩ (block_lt_of_cell c4) (fun e => h4 (by cases e; rfl))).trans c4) ((hg.cell_far ⟨b1, 4, none⟩ (block_lt_of_cell c1) (fun e => h1 (by cases e; rfl))).trans c1) (rd_sorted hrP hp hg) (rd_sorted hrW hw hg)
end Go.Proofs.Ytjanphcfflahkaa.game

/- Ranks: the program's RankGame. -/
namespace Go.Proofs.Ytjanphcfflahkaa.game
open Go.RowKit
open cards deal reg
set_option linter.unusedVariables false

theorem rank_result {k : Nat} {P W : List Int} {l' : List (Fin (k + 1))} (hp : l'.Perm (List.finRange (k + 1))) (hs : l'.Pairwise (fun a b => ¬ bef (fun i => P.getD i 0) (fun i => W.getD i 0) b.val a.val)) : finL l' = rk (fun i => P.getD i 0) (fun i => W.getD i 0) (k + 1) := by
  have hp2 : (finL l').Perm (List.range (k + 1)) := by
    rw [← fin_range]; exact hp.map _
  refine rk_is hp2 (sorted_bef hp2 ?_)
  unfold finL
  rw [List.pairwise_map]
  exact hs
theorem range_at {n k : Nat} (h : k < n) : (casts (List.range n))[k]? = some (k : Int) := by simp [casts, h]
theorem range_len (n : Nat) : (casts (List.range n)).length = n := by simp [casts]

set_option maxRecDepth 100000 in
set_option maxHeartbeats 4000000 in
theorem impl_rg (g : Gm) (p ps pw : Option Addr) (n c ns cs nw cw : Nat) (w : World) (hf : FitG n c ns cs nw cw p ps pw g) (hr : RdG w p ps pw g.l g.sc g.wr) :
    Calls Try.prog 29 #[gval g.s g.nx (.slice p n c) (.slice ps ns cs) (.slice pw nw cw)] w fun e w' => ∃ v, e = .returned (.tuple #[v, .bool (rgR g).2]) ∧ OwnI w' w.heap.size v (rgR g).1 ∧ Below w.heap.size w w' := by
  have HR := Lib.hid hr
  have HF := Lib.hid hf
  have HC := Lib.hid (fun w h => is_game g p ps pw n c ns cs nw cw w hf h)
  clear hf hr
  cases hok : g.ok
  · have HT := Lib.hid (show rgR g = ([], false) by unfold rgR; rw [if_neg (by simp [hok])])
    rw [hok] at HC
    rw [HT.out]
    clear hok HT
    obtain ⟨s, nx, l, sc, wt⟩ := g
    simp only at HR HC ⊢
    go_enter Try.func29, Try.ntmps29
    go_upto_region 1 with fail
    have K1 : Hid (GBox (w.alloc (Gv.obj ⟨51, s, nx, .slice p n c, .slice ps ns cs, .slice pw nw cw⟩)) w.heap.size ⟨51, s, nx, .slice p n c, .slice ps ns cs, .slice pw nw cw⟩) := Lib.hid (GBox.newAt rfl rfl)
    obtain ⟨w0, ew, b⟩ : ∃ wOPN : World, wOPN = (w.alloc (Gv.obj ⟨51, s, nx, .slice p n c, .slice ps ns cs, .slice pw nw cw⟩)) ∧ Below ((w.alloc (Gv.obj ⟨51, s, nx, .slice p n c, .slice ps ns cs, .slice pw nw cw⟩))).heap.size ((w.alloc (Gv.obj ⟨51, s, nx, .slice p n c, .slice ps ns cs, .slice pw nw cw⟩))) wOPN := ⟨_, rfl, Below.refl _ _⟩
    rw [← ew]
    clear ew
    have Sw0 := Lib.hid b.size
    have HB := Lib.hid (chain0 (w := w) (by repeat (first | with_reducible exact Below.refl _ _ | with_reducible exact HB.out | with_reducible apply Below.drew | with_reducible apply bdN | with_reducible refine Below.alloc ?_ (by first | exact Nat.le_refl _ | with_reducible exact HB.out.size | omega | (simp; done) | (simp; omega) | (have := HB.out.size; simp at *; omega)) _ | with_reducible refine Below.setCell ?_ (by first | exact Nat.le_refl _ | with_reducible exact HB.out.size | omega | (simp; done) | (simp; omega) | (have := HB.out.size; simp at *; omega)) _)) b)
    have HR := Lib.hid (RdG.below (by repeat (first | with_reducible exact HR.out | with_reducible apply RdG.drewN | with_reducible apply RdG.drew | with_reducible apply RdG.alloc)) b)
    have K1 : Hid (GBox _ (w.heap.size) (⟨51, s, nx, .slice p n c, .slice ps ns cs, .slice pw nw cw⟩)) := Lib.hid (GBox.below (by repeat (first | with_reducible exact K1.out | with_reducible apply GBox.drewN | with_reducible apply GBox.drew | (with_reducible refine GBox.newAt ?_ ?_ <;> first | (simp; done) | rfl) | with_reducible apply GBox.alloc)) b)
    try clear k1a k1b k1c k1d k1e k1z
    have k1z := K1.out.lt
    obtain ⟨k1a, k1b, k1c, k1d, k1e⟩ := K1.out.cell
    clear b
    go_wp2_with fail
    refine ((HC.out _ HR.out)).mono ?_
    rintro e w1 ⟨rfl, b⟩
    have Sw1 := Lib.hid b.size
    have HB := Lib.hid (chain0 (w := w) (by repeat (first | with_reducible exact Below.refl _ _ | with_reducible exact HB.out | with_reducible apply Below.drew | with_reducible apply bdN | with_reducible refine Below.alloc ?_ (by first | exact Nat.le_refl _ | with_reducible exact HB.out.size | omega | (simp; done) | (simp; omega) | (have := HB.out.size; simp at *; omega)) _ | with_reducible refine Below.setCell ?_ (by first | exact Nat.le_refl _ | with_reducible exact HB.out.size | omega | (simp; done) | (simp; omega) | (have := HB.out.size; simp at *; omega)) _)) b)
    have HR := Lib.hid (RdG.below (by repeat (first | with_reducible exact HR.out | with_reducible apply RdG.drewN | with_reducible apply RdG.drew | with_reducible apply RdG.alloc)) b)
    have K1 : Hid (GBox _ (w.heap.size) (⟨51, s, nx, .slice p n c, .slice ps ns cs, .slice pw nw cw⟩)) := Lib.hid (GBox.below (by repeat (first | with_reducible exact K1.out | with_reducible apply GBox.drewN | with_reducible apply GBox.drew | (with_reducible refine GBox.newAt ?_ ?_ <;> first | (simp; done) | rfl) | with_reducible apply GBox.alloc)) b)
    try clear k1a k1b k1c k1d k1e k1z
    have k1z := K1.out.lt
    obtain ⟨k1a, k1b, k1c, k1d, k1e⟩ := K1.out.cell
    clear b
    have HOe := Lib.hid (OwnI.empty w1 w.heap.size HB.out.size)
    go_wp2_with fail
    go_ret2
    exact ⟨_, rfl, HOe.out, by repeat (first | with_reducible exact Below.refl _ _ | with_reducible exact HB.out | with_reducible apply Below.drew | with_reducible apply bdN | with_reducible refine Below.alloc ?_ (by first | exact Nat.le_refl _ | with_reducible exact HB.out.size | omega | (simp; done) | (simp; omega) | (have := HB.out.size; simp at *; omega)) _ | with_reducible refine Below.setCell ?_ (by first | exact Nat.le_refl _ | with_reducible exact HB.out.size | omega | (simp; done) | (simp; omega) | (have := HB.out.size; simp at *; omega)) _)⟩
  · have HO := Lib.hid (Gm.ok_iff.1 hok)
    have HT := Lib.hid (show rgR g = (casts (rk (pvG g) (wvG g) g.sc.length), true) by unfold rgR; rw [if_pos hok])
    obtain rfl : nw = ns := by rw [← HF.out.hw, ← HF.out.hs]; exact HO.out.eq
    have hn4 : nw ≤ 4 ∧ 1 ≤ nw := by have := HO.out.p4; have := HO.out.p1; have := HF.out.hs; omega
    obtain ⟨n4, n1⟩ := hn4
    have HP := Lib.hid (fun w h => player_points g p ps pw n c nw cs cw w HF.out.hs HF.out.hw (by omega) HO.out.ts HO.out.tw h)
    have HPl := Lib.hid ((pts_len HO.out.eq).trans HF.out.hs)
    have HWl := Lib.hid (HF.out.hw)
    have HSl := HF.out.hs
    rw [hok] at HC
    rw [HT.out, HSl]
    unfold pvG wvG
    obtain ⟨P, hP⟩ : ∃ P, pts g = P := ⟨_, rfl⟩
    rw [hP] at HP HPl ⊢
    clear hok HT hP HSl
    obtain ⟨s, nx, l, sc, wt⟩ := g
    simp only at HR HC HP HWl ⊢
    obtain ⟨R, hR⟩ : ∃ R, casts (rk (fun i => P.getD i 0) (fun i => wt.getD i 0) nw) = R := ⟨_, rfl⟩
    have HRr := Lib.hid hR
    rw [hR]
    clear hR
    have hmk := madeI nw (by omega)
    go_enter Try.func29, Try.ntmps29
    go_upto_region 1 with fail
    have K1 : Hid (GBox (w.alloc (Gv.obj ⟨51, s, nx, .slice p n c, .slice ps nw cs, .slice pw nw cw⟩)) w.heap.size ⟨51, s, nx, .slice p n c, .slice ps nw cs, .slice pw nw cw⟩) := Lib.hid (GBox.newAt rfl rfl)
    obtain ⟨w0, ew, b⟩ : ∃ wOPN : World, wOPN = (w.alloc (Gv.obj ⟨51, s, nx, .slice p n c, .slice ps nw cs, .slice pw nw cw⟩)) ∧ Below ((w.alloc (Gv.obj ⟨51, s, nx, .slice p n c, .slice ps nw cs, .slice pw nw cw⟩))).heap.size ((w.alloc (Gv.obj ⟨51, s, nx, .slice p n c, .slice ps nw cs, .slice pw nw cw⟩))) wOPN := ⟨_, rfl, Below.refl _ _⟩
    rw [← ew]
    clear ew
    have Sw0 := Lib.hid b.size
    have HB := Lib.hid (chain0 (w := w) (by repeat (first | with_reducible exact Below.refl _ _ | with_reducible exact HB.out | with_reducible apply Below.drew | with_reducible apply bdN | with_reducible refine Below.alloc ?_ (by first | exact Nat.le_refl _ | with_reducible exact HB.out.size | omega | (simp; done) | (simp; omega) | (have := HB.out.size; simp at *; omega)) _ | with_reducible refine Below.setCell ?_ (by first | exact Nat.le_refl _ | with_reducible exact HB.out.size | omega | (simp; done) | (simp; omega) | (have := HB.out.size; simp at *; omega)) _)) b)
    have HR := Lib.hid (RdG.below (by repeat (first | with_reducible exact HR.out | with_reducible apply RdG.drewN | with_reducible apply RdG.drew | with_reducible apply RdG.alloc)) b)
    have K1 : Hid (GBox _ (w.heap.size) (⟨51, s, nx, .slice p n c, .slice ps nw cs, .slice pw nw cw⟩)) := Lib.hid (GBox.below (by repeat (first | with_reducible exact K1.out | with_reducible apply GBox.drewN | with_reducible apply GBox.drew | (with_reducible refine GBox.newAt ?_ ?_ <;> first | (simp; done) | rfl) | with_reducible apply GBox.alloc)) b)
    try clear k1a k1b k1c k1d k1e k1z
    have k1z := K1.out.lt
    obtain ⟨k1a, k1b, k1c, k1d, k1e⟩ := K1.out.cell
    clear b
    go_wp2_with fail
    refine ((HC.out _ HR.out)).mono ?_
    rintro e w1 ⟨rfl, b⟩
    have Sw1 := Lib.hid b.size
    have HB := Lib.hid (chain0 (w := w) (by repeat (first | with_reducible exact Below.refl _ _ | with_reducible exact HB.out | with_reducible apply Below.drew | with_reducible apply bdN | with_reducible refine Below.alloc ?_ (by first | exact Nat.le_refl _ | with_reducible exact HB.out.size | omega | (simp; done) | (simp; omega) | (have := HB.out.size; simp at *; omega)) _ | with_reducible refine Below.setCell ?_ (by first | exact Nat.le_refl _ | with_reducible exact HB.out.size | omega | (simp; done) | (simp; omega) | (have := HB.out.size; simp at *; omega)) _)) b)
    have HR := Lib.hid (RdG.below (by repeat (first | with_reducible exact HR.out | with_reducible apply RdG.drewN | with_reducible apply RdG.drew | with_reducible apply RdG.alloc)) b)
    have K1 : Hid (GBox _ (w.heap.size) (⟨51, s, nx, .slice p n c, .slice ps nw cs, .slice pw nw cw⟩)) := Lib.hid (GBox.below (by repeat (first | with_reducible exact K1.out | with_reducible apply GBox.drewN | with_reducible apply GBox.drew | (with_reducible refine GBox.newAt ?_ ?_ <;> first | (simp; done) | rfl) | with_reducible apply GBox.alloc)) b)
    try clear k1a k1b k1c k1d k1e k1z
    have k1z := K1.out.lt
    obtain ⟨k1a, k1b, k1c, k1d, k1e⟩ := K1.out.cell
    clear b
    go_wp2_with fail
    refine (HP.out _ HR.out).mono ?_
    rintro e w2 ⟨v, rfl, hv, b⟩
    have HV := Lib.hid (OwnI.base hv HB.out.size)
    obtain ⟨pv, cv, rfl, _⟩ := hv.form
    rw [HPl.out] at HV hv ⊢
    clear hv
    have Sw2 := Lib.hid b.size
    have HB := Lib.hid (chain0 (w := w) (by repeat (first | with_reducible exact Below.refl _ _ | with_reducible exact HB.out | with_reducible apply Below.drew | with_reducible apply bdN | with_reducible refine Below.alloc ?_ (by first | exact Nat.le_refl _ | with_reducible exact HB.out.size | omega | (simp; done) | (simp; omega) | (have := HB.out.size; simp at *; omega)) _ | with_reducible refine Below.setCell ?_ (by first | exact Nat.le_refl _ | with_reducible exact HB.out.size | omega | (simp; done) | (simp; omega) | (have := HB.out.size; simp at *; omega)) _)) b)
    have HR := Lib.hid (RdG.below (by repeat (first | with_reducible exact HR.out | with_reducible apply RdG.drewN | with_reducible apply RdG.drew | with_reducible apply RdG.alloc)) b)
    have K1 : Hid (GBox _ (w.heap.size) (⟨51, s, nx, .slice p n c, .slice ps nw cs, .slice pw nw cw⟩)) := Lib.hid (GBox.below (by repeat (first | with_reducible exact K1.out | with_reducible apply GBox.drewN | with_reducible apply GBox.drew | (with_reducible refine GBox.newAt ?_ ?_ <;> first | (simp; done) | rfl) | with_reducible apply GBox.alloc)) b)
    try clear k1a k1b k1c k1d k1e k1z
    have k1z := K1.out.lt
    obtain ⟨k1a, k1b, k1c, k1d, k1e⟩ := K1.out.cell
    clear b
    clear k1a k1b k1c k1d k1e k1z
    go_upto_region 4 with fail
    have c4 : (w2.alloc (.cells #[.slice pv nw cv] 43)).cell? ⟨w2.heap.size, 0, none⟩ = some (.slice pv nw cv) := by rw [World.cell?_alloc_at _ _ _ _ rfl]; rfl
    have HBW : Hid (Below w.heap.size w (w2.alloc (.cells #[.slice pv nw cv] 43))) := Lib.hid (HB.out.alloc HB.out.size _)
    have K1a := Lib.hid (K1.out.alloc (.cells #[.slice pv nw cv] 43))
    have HVa := Lib.hid (HV.out.alloc (.cells #[.slice pv nw cv] 43))
    have HRa := Lib.hid (HR.out.alloc (.cells #[.slice pv nw cv] 43))
    obtain ⟨q4, hq4⟩ : ∃ q4, w2.heap.size = q4 := ⟨_, rfl⟩
    have h4l : q4 < (w2.alloc (.cells #[.slice pv nw cv] 43)).heap.size := by rw [← hq4]; simp
    rw [hq4] at c4
    try rw [hq4]
    obtain ⟨W, hW⟩ : ∃ W, w2.alloc (.cells #[.slice pv nw cv] 43) = W := ⟨_, rfl⟩
    rw [hW] at c4 HBW K1a HVa HRa h4l
    rw [hW]
    clear hW HB HV K1 HR hq4
    have hWs := HBW.out.size
    have HOm := Lib.hid (own_madeI W nw (by omega))
    have HBm : Hid (Below W.heap.size W (W.alloc (.cells (madeCells #[Value.int .i64 0] nw) 3))) := Lib.hid ((Below.refl _ _).alloc (Nat.le_refl _) _)
    rw [← partI_zero (casts (List.range nw)) nw] at HOm
    have HC4 := Lib.hid c4
    go_wp2_with fail
    clear c4 hmk
    go_loopw [6, 18] (fun _ i wr => ∃ k : Nat, k ≤ nw ∧ i = .int .i64 k ∧ Hid (OwnI wr W.heap.size (.slice (some ⟨W.heap.size, 0, none⟩) nw nw) (partI (casts (List.range nw)) nw k)) ∧ Hid (Below W.heap.size W wr)) (fun _ i _ => nw - (intOf i).toNat)
    case atStart => exact ⟨0, Nat.zero_le _, rfl, HOm, HBm⟩
    case round =>
      clear HOm HBm
      obtain ⟨k, hk, rfl, HO2, HB2⟩ := hrel
      have m0 : (0 : Int) ≤ (k : Int) := by omega
      by_cases hlt : k < nw
      · have m1 : (k : Int) < (nw : Int) := by omega
        obtain ⟨z, hz, f0, hf, hB, hg⟩ := HO2.out.slot (partI_len (range_len nw) hk) k hlt
        have HSt := Lib.hid (HO2.out.store (partI_len (range_len nw) hk) k (k : Int))
        rw [partI_set (range_len nw) hlt (range_at hlt)] at HSt
        have HB3 := Lib.hid (HB2.out.setCell (p := ⟨W.heap.size, k, none⟩) (Nat.le_refl _) (.int .i64 (k : Int)))
        clear hz HO2
        go_wp2_with fail
        go_roundw
        case rel => exact ⟨k + 1, by omega, by go_num, HSt, HB3⟩
        case measure => simp [intOf]; omega
      · obtain rfl : k = nw := by omega
        rw [partI_all (range_len k)] at HO2
        obtain ⟨m, rfl⟩ : ∃ m, k = m + 1 := ⟨k - 1, by omega⟩
        have K1b := K1a.out.below HB2.out
        obtain ⟨-, -, -, -, k1e⟩ := K1b.cell
        have c4 := (HB2.out.cell (p := ⟨q4, 0, none⟩) h4l).trans HC4.out
        have hVr := (OwnI.below HVa.out HB2.out).rd
        have hVr0 := HVa.out.span
        have hRW := (RdG.below HRa.out HB2.out).c
        have hRW0 := HRa.out.c
        have HL := Lib.hid (rank_lays P wt pv pw cv cw q4 w.heap.size W.heap.size (m + 1) wr HPl.out HWl.out (by omega) c4 k1e hVr hRW (by omega) (by have := K1a.out.lt; omega)
          (fun b o e => by have := (hVr0 b (by rw [e]; rfl)).2; omega)
          (fun b o e => by
            have h9 := hRW0 (by rw [ints_len, HWl.out]; omega)
            obtain ⟨b', o', e', hb', _⟩ := h9
            rw [e] at e'
            cases e'
            omega))
        have HO4 : Hid (OwnI wr W.heap.size (.slice (some ⟨W.heap.size, 0, none⟩) (m + 1) (m + 1)) (casts (finL (List.finRange (m + 1))))) := by rw [fin_range]; exact HO2
        have HS := Lib.hid (sort_rank (List.finRange (m + 1)) (m + 1) W.heap.size (m + 1) W.heap.size q4 w.heap.size wr (by simp) (by omega) HO4.out HL.out)
        clear K1b k1e c4 hVr hVr0 hRW hRW0 HL
        go_wp2_with fail
        refine HS.out.mono ?_
        rintro e w5 ⟨rfl, l', h1, h2, h3, h4⟩
        have HE := Lib.hid (rank_result h1 h2)
        rw [HE.out, HRr.out] at h3
        have HO5 := Lib.hid h3
        have HB5 : Hid (Below w.heap.size w w5) := Lib.hid (HBW.out.trans ((Below.grown HB2.out h4 HB2.out.size (fun k e => by cases e; exact Nat.le_refl _)).mono hWs))
        clear h1 h2 h3 h4
        go_wp2_with fail
        go_ret2
        exact ⟨_, rfl, OwnI.base HO5.out hWs, HB5.out⟩
end Go.Proofs.Ytjanphcfflahkaa.game

/- Ranks: the model's RankGame. -/
namespace Go.Proofs.Ytjanphcfflahkaa.game
open Go.RowKit
open cards deal reg
set_option linter.unusedVariables false

set_option maxRecDepth 100000 in
/-- Numbers of another row are appended to a row of the call's own. -/
theorem exec_appendL {w : World} {B : Nat} {v : Value} {l m : List Int} {a : Act} {o : Oper} (s y : Operand) {g q n c : Nat} (ho : o.op = .call { callee := .builtin .append, args := #[s, y], argTypes := #[43, 43] }) (hs : a.eval s = v) (hy : a.eval y = .slice (some ⟨g, q, none⟩) n c)
    (hm : m.length = n) (hR : Rd w (some ⟨g, q, none⟩) (ints m)) (hO : OwnI w B v l) (hl : l.length + n ≤ 1000000) (hB : B ≤ w.heap.size) :
    ∃ v' w', (execOp a.eval o).run Try.prog w = .ok (.value v') w' ∧ OwnI w' B v' (l ++ m) ∧ w.grownBy w' v.ownBlock ∧ (v'.ownBlock = v.ownBlock ∨ v'.ownBlock = some w.heap.size) := by
  obtain ⟨i, hi, hz, hsz, hb⟩ := info_parts int_info
  obtain ⟨v', w', hr, h2, h3, h4, h5⟩ := run_append_own_at (P := Try.prog) w B 43 o.type 3 i (.int .i64 0) 1 8 Try.underlying43 hi hz hsz hb rfl (by decide) v l.length (ints l) hO ⟨g, q, none⟩ n c (ints m) (by rw [ints_len, hm]; omega) (by
    intro j u hu
    obtain ⟨b, o, e, _, hc⟩ := hR (Nat.lt_of_le_of_lt (Nat.zero_le _) (List.getElem?_eq_some_iff.1 hu).1)
    injection e with e
    injection e with e1 e2
    subst e1; subst e2
    rw [addP]; exact hc j u hu) (ints_oneJ m) (by simp only [maxLen]; omega) (by omega) hB
  refine ⟨v', w', ?_, ?_, h3, h5⟩
  · unfold execOp
    simp only [ho, resolve, invoke, builtin, Sem.run_bind, Sem.run_pure, Result.andThen_ok, List.map_toArray, List.map_cons, List.map_nil, hs, hy, hr]
  · unfold OwnI
    rw [List.length_append, hm]
    have e : ints (l ++ m) = ints l ++ ints m := by simp [ints]
    rw [e]; exact h2
theorem exec_toI {k n b ad cp : Nat} (hk : k ≤ cp) {a : Act} {o : Oper} {p q : Operand} (ho : o.op = .slice 43 p none (some q) none) (hp : a.eval p = .slice (some ⟨b, ad, none⟩) n cp) (hq : a.eval q = .int .i64 k) (w : World) :
    (execOp a.eval o).run Try.prog w = .ok (.value (.slice (some ⟨b, ad, none⟩) k cp)) w := by
  have h1 : ¬ ((cp : Int) < (k : Int)) := by omega
  have h2 : ¬ ((k : Int) < 0) := by omega
  unfold execOp
  rw [ho]
  simp only [hp, hq, Option.map]
  go_simp
theorem exec_fromI {k n b ad cp : Nat} (hk : k ≤ n) (hn : n ≤ cp) {a : Act} {o : Oper} {p q : Operand} (ho : o.op = .slice 43 p (some q) none none) (hp : a.eval p = .slice (some ⟨b, ad, none⟩) n cp) (hq : a.eval q = .int .i64 k) (w : World) :
    (execOp a.eval o).run Try.prog w = .ok (.value (.slice (if cp = k then some ⟨b, ad, none⟩ else some ⟨b, ad + k, none⟩) (n - k) (cp - k))) w := by
  have h1 : ¬ ((n : Int) < (k : Int)) := by omega
  have h2 : ¬ ((k : Int) < 0) := by omega
  have h3 : ¬ ((cp : Int) < (n : Int)) := by omega
  unfold execOp
  rw [ho]
  simp only [hp, hq, Option.map]
  go_simp
theorem ints_take (l : List Int) (k : Nat) : ints (l.take k) = (ints l).take k := by simp [ints, List.map_take]
theorem ints_drop (l : List Int) (k : Nat) : ints (l.drop k) = (ints l).drop k := by simp [ints, List.map_drop]
theorem rd_takeI {w : World} {p : Option Addr} {l : List Int} (h : Rd w p (ints l)) (k : Nat) : Rd w p (ints (l.take k)) := fun hp => by
  rw [ints_take] at hp ⊢
  obtain ⟨b, o, e, hlt, hc⟩ := h (by rw [List.length_take] at hp; omega)
  refine ⟨b, o, e, hlt, fun j v hv => hc j v ?_⟩
  rw [List.getElem?_take] at hv
  split at hv
  · exact hv
  · cases hv
theorem rd_dropI {w : World} {b o : Nat} {l : List Int} (h : Rd w (some ⟨b, o, none⟩) (ints l)) (k : Nat) {cp : Nat} (hk : l.length ≤ cp) : Rd w (if cp = k then some ⟨b, o, none⟩ else some ⟨b, o + k, none⟩) (ints (l.drop k)) := by
  split
  · rename_i e
    subst e
    rw [List.drop_eq_nil_of_le hk]
    intro hp; simp [ints] at hp
  · intro hp
    rw [ints_drop] at hp ⊢
    obtain ⟨b', o', e, hlt, hc⟩ := h (by rw [List.length_drop] at hp; omega)
    injection e with e
    injection e with e1 e2
    subst e1; subst e2
    refine ⟨_, _, rfl, hlt, fun j v hv => ?_⟩
    rw [List.getElem?_drop] at hv
    rw [Nat.add_assoc]
    exact hc _ _ hv
theorem casts_app (a b : List Nat) : casts (a ++ b) = casts a ++ casts b := by simp [casts]
theorem casts_take (a : List Nat) (k : Nat) : casts (a.take k) = (casts a).take k := by simp [casts, List.map_take]
theorem casts_drop (a : List Nat) (k : Nat) : casts (a.drop k) = (casts a).drop k := by simp [casts, List.map_drop]
theorem casts_ins (l : List Nat) (i k : Nat) : casts (insK l i k) = ((casts l).take k ++ [(i : Int)]) ++ (casts l).drop k := by simp [insK, casts, List.map_take, List.map_drop]
theorem casts_at {l : List Nat} {k x : Nat} (h : l[k]? = some x) : (casts l)[k]? = some (x : Int) := by simp [casts, h]
end Go.Proofs.Ytjanphcfflahkaa.game

/- Ranks: the model's RankGame, its loops. -/
namespace Go.Proofs.Ytjanphcfflahkaa.game
open Go.RowKit
open cards deal reg
set_option linter.unusedVariables false

theorem exec_one {x : Int} {a : Act} {o : Oper} {t : Tmp} (ho : o.op = .buildSlice 43 1 #[(0, .tmp t)]) (hp : a.tmps[t]?.getD undef = .int .i64 x) (w : World) :
    (execOp a.eval o).run Try.prog w = .ok (.value (.slice (some ⟨w.heap.size, 0, none⟩) 1 1)) (w.alloc (.cells #[.int .i64 x] 3)) := by
  unfold execOp
  rw [ho]
  go_simp
theorem op_app {ops : Array Oper} {Q : Exit → Act → World → Prop} (i : Nat) (d : Tmp) {o : Oper} {a : Act} {w : World} {B : Nat} {v : Value} {l m : List Int} (s y : Operand) {g q n c : Nat} (hi : ops[i]? = some o) (hd : o.dst = some d) (hgd : o.guard = none)
    (ho : o.op = .call { callee := .builtin .append, args := #[s, y], argTypes := #[43, 43] }) (hs : a.eval s = v) (hy : a.eval y = .slice (some ⟨g, q, none⟩) n c)
    (hm : m.length = n) (hR : Rd w (some ⟨g, q, none⟩) (ints m)) (hO : OwnI w B v l) (hl : l.length + n ≤ 1000000) (hB : B ≤ w.heap.size) {K : Act → World → Prop}
    (h : ∀ v' w', OwnI w' B v' (l ++ m) → w.grownBy w' v.ownBlock → K (a.put (some d) v') w') : wpOp Try.prog ops Q i K a w := by
  obtain ⟨v', w', e, h1, h2, -⟩ := exec_appendL s y ho hs hy hm hR hO hl hB
  exact op_valR i d hi hd hgd e (h v' w' h1 h2)
theorem rd_oneI {w : World} {g : Nat} {x : Int} (h : w.heap[g]? = some (.cells #[.int .i64 x] 3)) : Rd w (some ⟨g, 0, none⟩) (ints [x]) := Rd.of_block h rfl

set_option maxRecDepth 100000 in
set_option maxHeartbeats 16000000 in
theorem spec_rg (g : Gm) (p ps pw : Option Addr) (n c ns cs nw cw : Nat) (w : World) (hf : FitG n c ns cs nw cw p ps pw g) (hr : RdG w p ps pw g.l g.sc g.wr) :
    Calls Try.prog 27 #[gval g.s g.nx (.slice p n c) (.slice ps ns cs) (.slice pw nw cw)] w fun e w' => ∃ v, e = .returned (.tuple #[v, .bool (rgR g).2]) ∧ OwnI w' w.heap.size v (rgR g).1 ∧ Below w.heap.size w w' := by
  have HR := Lib.hid hr
  have HF := Lib.hid hf
  have HC := Lib.hid (fun w h => l8_game g p ps pw n c ns cs nw cw w hf h)
  clear hf hr
  cases hok : g.ok
  · have HT := Lib.hid (show rgR g = ([], false) by unfold rgR; rw [if_neg (by simp [hok])])
    rw [hok] at HC
    rw [HT.out]
    clear hok HT
    obtain ⟨s, nx, l, sc, wt⟩ := g
    simp only at HR HC ⊢
    have K1 : Hid (GBox ((w.alloc (Gv.obj ⟨51, s, nx, .slice p n c, .slice ps ns cs, .slice pw nw cw⟩)).alloc (.cells #[] 3)) w.heap.size ⟨51, s, nx, .slice p n c, .slice ps ns cs, .slice pw nw cw⟩) := Lib.hid ((GBox.newAt rfl rfl).alloc _)
    have HOz : Hid (OwnI ((w.alloc (Gv.obj ⟨51, s, nx, .slice p n c, .slice ps ns cs, .slice pw nw cw⟩)).alloc (.cells #[] 3)) w.heap.size (.slice (some ⟨w.heap.size + 1, 0, none⟩) 0 0) []) := Lib.hid (by have h := OwnI.empty (w.alloc (Gv.obj ⟨51, s, nx, .slice p n c, .slice ps ns cs, .slice pw nw cw⟩)) w.heap.size (by simp); simpa using h)
    go_enter Try.func27, Try.ntmps27
    go_upto_region 2 with fail
    obtain ⟨w0, ew, b⟩ : ∃ wOPN : World, wOPN = ((w.alloc (Gv.obj ⟨51, s, nx, .slice p n c, .slice ps ns cs, .slice pw nw cw⟩)).alloc (.cells #[] 3)) ∧ Below (((w.alloc (Gv.obj ⟨51, s, nx, .slice p n c, .slice ps ns cs, .slice pw nw cw⟩)).alloc (.cells #[] 3))).heap.size (((w.alloc (Gv.obj ⟨51, s, nx, .slice p n c, .slice ps ns cs, .slice pw nw cw⟩)).alloc (.cells #[] 3))) wOPN := ⟨_, rfl, Below.refl _ _⟩
    rw [← ew]
    clear ew
    have Sw0 := Lib.hid b.size
    have HB := Lib.hid (chain0 (w := w) (by repeat (first | with_reducible exact Below.refl _ _ | with_reducible exact HB.out | with_reducible apply Below.drew | with_reducible apply bdN | with_reducible refine Below.alloc ?_ (by first | exact Nat.le_refl _ | with_reducible exact HB.out.size | omega | (simp; done) | (simp; omega) | (have := HB.out.size; simp at *; omega)) _ | with_reducible refine Below.setCell ?_ (by first | exact Nat.le_refl _ | with_reducible exact HB.out.size | omega | (simp; done) | (simp; omega) | (have := HB.out.size; simp at *; omega)) _)) b)
    have HOz := Lib.hid (OwnI.below (by repeat (first | with_reducible exact HOz.out | with_reducible apply OwnI.drewN | with_reducible apply OwnI.drew | with_reducible apply OwnI.alloc)) b)
    have HR := Lib.hid (RdG.below (by repeat (first | with_reducible exact HR.out | with_reducible apply RdG.drewN | with_reducible apply RdG.drew | with_reducible apply RdG.alloc)) b)
    have K1 : Hid (GBox _ (w.heap.size) (⟨51, s, nx, .slice p n c, .slice ps ns cs, .slice pw nw cw⟩)) := Lib.hid (GBox.below (by repeat (first | with_reducible exact K1.out | with_reducible apply GBox.drewN | with_reducible apply GBox.drew | (with_reducible refine GBox.newAt ?_ ?_ <;> first | (simp; done) | rfl) | with_reducible apply GBox.alloc)) b)
    try clear k1a k1b k1c k1d k1e k1z
    have k1z := K1.out.lt
    obtain ⟨k1a, k1b, k1c, k1d, k1e⟩ := K1.out.cell
    clear b
    go_wp2_with fail
    refine ((HC.out _ HR.out)).mono ?_
    rintro e w1 ⟨rfl, b⟩
    have Sw1 := Lib.hid b.size
    have HB := Lib.hid (chain0 (w := w) (by repeat (first | with_reducible exact Below.refl _ _ | with_reducible exact HB.out | with_reducible apply Below.drew | with_reducible apply bdN | with_reducible refine Below.alloc ?_ (by first | exact Nat.le_refl _ | with_reducible exact HB.out.size | omega | (simp; done) | (simp; omega) | (have := HB.out.size; simp at *; omega)) _ | with_reducible refine Below.setCell ?_ (by first | exact Nat.le_refl _ | with_reducible exact HB.out.size | omega | (simp; done) | (simp; omega) | (have := HB.out.size; simp at *; omega)) _)) b)
    have HOz := Lib.hid (OwnI.below (by repeat (first | with_reducible exact HOz.out | with_reducible apply OwnI.drewN | with_reducible apply OwnI.drew | with_reducible apply OwnI.alloc)) b)
    have HR := Lib.hid (RdG.below (by repeat (first | with_reducible exact HR.out | with_reducible apply RdG.drewN | with_reducible apply RdG.drew | with_reducible apply RdG.alloc)) b)
    have K1 : Hid (GBox _ (w.heap.size) (⟨51, s, nx, .slice p n c, .slice ps ns cs, .slice pw nw cw⟩)) := Lib.hid (GBox.below (by repeat (first | with_reducible exact K1.out | with_reducible apply GBox.drewN | with_reducible apply GBox.drew | (with_reducible refine GBox.newAt ?_ ?_ <;> first | (simp; done) | rfl) | with_reducible apply GBox.alloc)) b)
    try clear k1a k1b k1c k1d k1e k1z
    have k1z := K1.out.lt
    obtain ⟨k1a, k1b, k1c, k1d, k1e⟩ := K1.out.cell
    clear b
    go_wp2_with fail
    go_ret2
    exact ⟨_, rfl, HOz.out, by repeat (first | with_reducible exact Below.refl _ _ | with_reducible exact HB.out | with_reducible apply Below.drew | with_reducible apply bdN | with_reducible refine Below.alloc ?_ (by first | exact Nat.le_refl _ | with_reducible exact HB.out.size | omega | (simp; done) | (simp; omega) | (have := HB.out.size; simp at *; omega)) _ | with_reducible refine Below.setCell ?_ (by first | exact Nat.le_refl _ | with_reducible exact HB.out.size | omega | (simp; done) | (simp; omega) | (have := HB.out.size; simp at *; omega)) _)⟩
  · have HO := Lib.hid (Gm.ok_iff.1 hok)
    have HT := Lib.hid (show rgR g = (casts (rk (pvG g) (wvG g) g.sc.length), true) by unfold rgR; rw [if_pos hok])
    obtain rfl : nw = ns := by rw [← HF.out.hw, ← HF.out.hs]; exact HO.out.eq
    have hn4 : nw ≤ 4 ∧ 1 ≤ nw := by have := HO.out.p4; have := HO.out.p1; have := HF.out.hs; omega
    obtain ⟨n4, n1⟩ := hn4
    have HP := Lib.hid (fun w h => l8_points g p ps pw n c nw cs cw w HF.out.hs HF.out.hw (by omega) HO.out.ts HO.out.tw h)
    have HPl := Lib.hid ((pts_len HO.out.eq).trans HF.out.hs)
    have HWl := Lib.hid (HF.out.hw)
    have HSl := HF.out.hs
    rw [hok] at HC
    rw [HT.out, HSl]
    unfold pvG wvG
    obtain ⟨P, hP⟩ : ∃ P, pts g = P := ⟨_, rfl⟩
    rw [hP] at HP HPl ⊢
    clear hok HT hP HSl
    obtain ⟨s, nx, l, sc, wt⟩ := g
    simp only at HR HC HP HWl ⊢
    obtain ⟨R, hR⟩ : ∃ R, casts (rk (fun i => P.getD i 0) (fun i => wt.getD i 0) nw) = R := ⟨_, rfl⟩
    have HRr := Lib.hid hR
    rw [hR]
    clear hR
    obtain ⟨pf, hpf⟩ : ∃ pf : Nat → Int, (fun i => P.getD i 0) = pf := ⟨_, rfl⟩
    obtain ⟨wf, hwf⟩ : ∃ wf : Nat → Int, (fun i => wt.getD i 0) = wf := ⟨_, rfl⟩
    have HPa : Hid (∀ i, i < nw → P[i]? = some (pf i)) := Lib.hid (fun i hi => by rw [← hpf]; exact getD_at HPl.out hi)
    have HWa : Hid (∀ i, i < nw → wt[i]? = some (wf i)) := Lib.hid (fun i hi => by rw [← hwf]; exact getD_at HWl.out hi)
    rw [hpf, hwf] at HRr
    clear hpf hwf
    have HOz : Hid (OwnI ((w.alloc (Gv.obj ⟨51, s, nx, .slice p n c, .slice ps nw cs, .slice pw nw cw⟩)).alloc (.cells #[] 3)) w.heap.size (.slice (some ⟨w.heap.size + 1, 0, none⟩) 0 0) (casts [])) := Lib.hid (by have h := OwnI.empty (w.alloc (Gv.obj ⟨51, s, nx, .slice p n c, .slice ps nw cs, .slice pw nw cw⟩)) w.heap.size (by simp); simpa [casts] using h)
    have K1 : Hid (GBox ((w.alloc (Gv.obj ⟨51, s, nx, .slice p n c, .slice ps nw cs, .slice pw nw cw⟩)).alloc (.cells #[] 3)) w.heap.size ⟨51, s, nx, .slice p n c, .slice ps nw cs, .slice pw nw cw⟩) := Lib.hid ((GBox.newAt rfl rfl).alloc _)
    go_enter Try.func27, Try.ntmps27
    go_upto_region 2 with fail
    obtain ⟨w0, ew, b⟩ : ∃ wOPN : World, wOPN = ((w.alloc (Gv.obj ⟨51, s, nx, .slice p n c, .slice ps nw cs, .slice pw nw cw⟩)).alloc (.cells #[] 3)) ∧ Below (((w.alloc (Gv.obj ⟨51, s, nx, .slice p n c, .slice ps nw cs, .slice pw nw cw⟩)).alloc (.cells #[] 3))).heap.size (((w.alloc (Gv.obj ⟨51, s, nx, .slice p n c, .slice ps nw cs, .slice pw nw cw⟩)).alloc (.cells #[] 3))) wOPN := ⟨_, rfl, Below.refl _ _⟩
    rw [← ew]
    clear ew
    have Sw0 := Lib.hid b.size
    have HB := Lib.hid (chain0 (w := w) (by repeat (first | with_reducible exact Below.refl _ _ | with_reducible exact HB.out | with_reducible apply Below.drew | with_reducible apply bdN | with_reducible refine Below.alloc ?_ (by first | exact Nat.le_refl _ | with_reducible exact HB.out.size | omega | (simp; done) | (simp; omega) | (have := HB.out.size; simp at *; omega)) _ | with_reducible refine Below.setCell ?_ (by first | exact Nat.le_refl _ | with_reducible exact HB.out.size | omega | (simp; done) | (simp; omega) | (have := HB.out.size; simp at *; omega)) _)) b)
    have HOz := Lib.hid (OwnI.below (by repeat (first | with_reducible exact HOz.out | with_reducible apply OwnI.drewN | with_reducible apply OwnI.drew | with_reducible apply OwnI.alloc)) b)
    have HR := Lib.hid (RdG.below (by repeat (first | with_reducible exact HR.out | with_reducible apply RdG.drewN | with_reducible apply RdG.drew | with_reducible apply RdG.alloc)) b)
    have K1 : Hid (GBox _ (w.heap.size) (⟨51, s, nx, .slice p n c, .slice ps nw cs, .slice pw nw cw⟩)) := Lib.hid (GBox.below (by repeat (first | with_reducible exact K1.out | with_reducible apply GBox.drewN | with_reducible apply GBox.drew | (with_reducible refine GBox.newAt ?_ ?_ <;> first | (simp; done) | rfl) | with_reducible apply GBox.alloc)) b)
    try clear k1a k1b k1c k1d k1e k1z
    have k1z := K1.out.lt
    obtain ⟨k1a, k1b, k1c, k1d, k1e⟩ := K1.out.cell
    clear b
    go_wp2_with fail
    refine ((HC.out _ HR.out)).mono ?_
    rintro e w1 ⟨rfl, b⟩
    have Sw1 := Lib.hid b.size
    have HB := Lib.hid (chain0 (w := w) (by repeat (first | with_reducible exact Below.refl _ _ | with_reducible exact HB.out | with_reducible apply Below.drew | with_reducible apply bdN | with_reducible refine Below.alloc ?_ (by first | exact Nat.le_refl _ | with_reducible exact HB.out.size | omega | (simp; done) | (simp; omega) | (have := HB.out.size; simp at *; omega)) _ | with_reducible refine Below.setCell ?_ (by first | exact Nat.le_refl _ | with_reducible exact HB.out.size | omega | (simp; done) | (simp; omega) | (have := HB.out.size; simp at *; omega)) _)) b)
    have HOz := Lib.hid (OwnI.below (by repeat (first | with_reducible exact HOz.out | with_reducible apply OwnI.drewN | with_reducible apply OwnI.drew | with_reducible apply OwnI.alloc)) b)
    have HR := Lib.hid (RdG.below (by repeat (first | with_reducible exact HR.out | with_reducible apply RdG.drewN | with_reducible apply RdG.drew | with_reducible apply RdG.alloc)) b)
    have K1 : Hid (GBox _ (w.heap.size) (⟨51, s, nx, .slice p n c, .slice ps nw cs, .slice pw nw cw⟩)) := Lib.hid (GBox.below (by repeat (first | with_reducible exact K1.out | with_reducible apply GBox.drewN | with_reducible apply GBox.drew | (with_reducible refine GBox.newAt ?_ ?_ <;> first | (simp; done) | rfl) | with_reducible apply GBox.alloc)) b)
    try clear k1a k1b k1c k1d k1e k1z
    have k1z := K1.out.lt
    obtain ⟨k1a, k1b, k1c, k1d, k1e⟩ := K1.out.cell
    clear b
    go_wp2_with fail
    refine (HP.out _ HR.out).mono ?_
    rintro e w2 ⟨v, rfl, hv, b⟩
    have HV := Lib.hid (OwnI.base hv HB.out.size)
    obtain ⟨pv, cv, rfl, _⟩ := hv.form
    rw [HPl.out] at HV hv ⊢
    clear hv
    have Sw2 := Lib.hid b.size
    have HB := Lib.hid (chain0 (w := w) (by repeat (first | with_reducible exact Below.refl _ _ | with_reducible exact HB.out | with_reducible apply Below.drew | with_reducible apply bdN | with_reducible refine Below.alloc ?_ (by first | exact Nat.le_refl _ | with_reducible exact HB.out.size | omega | (simp; done) | (simp; omega) | (have := HB.out.size; simp at *; omega)) _ | with_reducible refine Below.setCell ?_ (by first | exact Nat.le_refl _ | with_reducible exact HB.out.size | omega | (simp; done) | (simp; omega) | (have := HB.out.size; simp at *; omega)) _)) b)
    have HOz := Lib.hid (OwnI.below (by repeat (first | with_reducible exact HOz.out | with_reducible apply OwnI.drewN | with_reducible apply OwnI.drew | with_reducible apply OwnI.alloc)) b)
    have HR := Lib.hid (RdG.below (by repeat (first | with_reducible exact HR.out | with_reducible apply RdG.drewN | with_reducible apply RdG.drew | with_reducible apply RdG.alloc)) b)
    have K1 : Hid (GBox _ (w.heap.size) (⟨51, s, nx, .slice p n c, .slice ps nw cs, .slice pw nw cw⟩)) := Lib.hid (GBox.below (by repeat (first | with_reducible exact K1.out | with_reducible apply GBox.drewN | with_reducible apply GBox.drew | (with_reducible refine GBox.newAt ?_ ?_ <;> first | (simp; done) | rfl) | with_reducible apply GBox.alloc)) b)
    try clear k1a k1b k1c k1d k1e k1z
    have k1z := K1.out.lt
    obtain ⟨k1a, k1b, k1c, k1d, k1e⟩ := K1.out.cell
    clear b
    clear k1a k1b k1c k1d k1e k1z
    obtain ⟨q1, hq1⟩ : ∃ q1, w.heap.size + 1 = q1 := ⟨_, rfl⟩
    rw [hq1] at HOz
    try rw [hq1]
    clear hq1
    go_wp2_with fail
    go_loopw [4, 6, 7] (fun u i _ wr => ∃ (k b0 cu : Nat) (L : List Nat), k ≤ nw ∧ u = .slice (some ⟨b0, 0, none⟩) k cu ∧ i = .int .i64 k ∧ k ≤ cu ∧ Hid (L.Perm (List.range k) ∧ L.Pairwise (bef pf wf)) ∧ Hid (OwnI wr w.heap.size (.slice (some ⟨b0, 0, none⟩) k cu) (casts L)) ∧ Hid (OwnI wr w.heap.size (.slice pv nw cv) P) ∧ Hid (RdG wr p ps pw l sc wt) ∧ Hid (GBox wr w.heap.size ⟨51, s, nx, .slice p n c, .slice ps nw cs, .slice pw nw cw⟩) ∧ Hid (Below w.heap.size w wr)) (fun _ i _ _ => nw - (intOf i).toNat)
    case atStart => exact ⟨0, q1, 0, [], Nat.zero_le _, rfl, rfl, Nat.le_refl _, Lib.hid ⟨.refl _, .nil⟩, HOz, HV, HR, K1, HB⟩
    case round =>
      clear HOz HB HV HR K1
      obtain ⟨k, b0, cu, L, hk, rfl, rfl, hcu, HL, HO2, HV, HR, K1, HB⟩ := hrel
      obtain ⟨wo, rfl⟩ : ∃ wo, wo = wr := ⟨wr, rfl⟩
      have m0 : (0 : Int) ≤ (k : Int) := by omega
      have hLl : L.length = k := by have := HL.out.1.length_eq; rw [List.length_range] at this; exact this
      have HLl := Lib.hid hLl
      by_cases hlt : k < nw
      · have m1 : (k : Int) < (nw : Int) := by omega
        go_wp2_with fail
        clear hLl
        go_loopw [7] (fun v wi => ∃ m : Nat, m ≤ k ∧ v = .int .i64 m ∧ Hid (∀ j x, m ≤ j → L[j]? = some x → bef pf wf k x) ∧ Hid (Below wo.heap.size wo wi)) (fun v _ => (intOf v).toNat)
        case atStart => exact ⟨k, Nat.le_refl _, rfl, Lib.hid (fun j x hj hx => by rw [List.getElem?_eq_none (by rw [HLl.out]; exact hj)] at hx; cases hx), Lib.hid (Below.refl _ _)⟩
        case round =>
          obtain ⟨m, hm, rfl, HA, HBi⟩ := hrel
          have HVi := Lib.hid (OwnI.below HV.out HBi.out)
          have HOi := Lib.hid (OwnI.below HO2.out HBi.out)
          have HRi := Lib.hid (RdG.below HR.out HBi.out)
          have K1i := Lib.hid (K1.out.below HBi.out)
          by_cases hm0 : m = 0
          · have H2 : Hid (∀ x, 0 < m → L[m - 1]? = some x → bef pf wf x k) := Lib.hid (fun x h => absurd h (by omega))
            have hq0 : decide ((0 : Int) < (m : Int)) = false := decide_eq_false (by omega)
            have hq0n : decide (0 < m) = false := decide_eq_false (by omega)
            clear hm0
            go_upto_region 9 with fail
            go_quiet (fail)
            have HBj := Lib.hid (HBi.out.trans (by repeat (first | with_reducible exact Below.refl _ _ | with_reducible apply bdN | with_reducible apply Below.drew) : Below wo.heap.size wr (wr.drewN nq)))
            go_upto_region 11 with fail
            obtain ⟨wz, hwz⟩ : ∃ wz, wr.drewN nq = wz := ⟨_, rfl⟩
            rw [hwz] at HBj
            rw [hwz]
            clear hwz
            have HOz := Lib.hid (OwnI.below HO2.out HBj.out)
            have hrz := HOz.out.rd
            have HIs := Lib.hid (insK_sorted HL.out.2 HA.out H2.out (by rw [HLl.out]; exact hm))
            have HIp := Lib.hid (insK_perm m HL.out.1)
            have HIc := Lib.hid (casts_ins L k m)
            have hlt1 : ((casts L).take m).length = m := by rw [List.length_take, casts_len, HLl.out]; omega
            have hlt2 : ((casts L).drop m).length = k - m := by rw [List.length_drop, casts_len, HLl.out]
            obtain ⟨o2, ho2⟩ : ∃ o2, (if cu = m then some (⟨b0, 0, none⟩ : Addr) else some ⟨b0, 0 + m, none⟩) = some ⟨b0, o2, none⟩ := by split <;> exact ⟨_, rfl⟩
            have hr2 : Rd wz (some ⟨b0, o2, none⟩) (ints ((casts L).drop m)) := by rw [← ho2]; exact rd_dropI hrz m (by rw [casts_len, HLl.out]; exact hcu)
            have hr1 := rd_takeI hrz m
            have HR1 := Lib.hid hr1
            have HR2 := Lib.hid hr2
            have HO3 := Lib.hid ho2
            clear hr1 hr2 hrz ho2
            have hsz := HBj.out.size
            have hsw := HB.out.size
            refine region_any (BI wz) 12 (by kernel_rfl) rfl ?_
            refine take_p 0 74 (v := .slice (some ⟨b0, 0, none⟩) k cu) rfl rfl rfl (by kernel_rfl) (by kernel_rfl) (by kernel_rfl) (fun w' h => by kernel_rfl) (BI.start wz) ?_
            refine take_p 1 75 (v := .int .i64 m) rfl rfl rfl (by kernel_rfl) (by kernel_rfl) (by kernel_rfl) (fun w' h => by kernel_rfl) (BI.start wz) ?_
            refine take_p 2 76 (v := .slice (some ⟨b0, 0, none⟩) m cu) rfl rfl rfl (by kernel_rfl) (by kernel_rfl) (by kernel_rfl) (fun w' h => exec_toI (n := k) (by omega) rfl (by kernel_rfl) (by kernel_rfl) w') (BI.start wz) ?_
            refine take_p 4 78 (v := .int .i64 k) rfl rfl rfl (by kernel_rfl) (by kernel_rfl) (by kernel_rfl) (fun w' h => by kernel_rfl) (BI.start wz) ?_
            refine take_p 7 81 (v := .slice (some ⟨b0, 0, none⟩) k cu) rfl rfl rfl (by kernel_rfl) (by kernel_rfl) (by kernel_rfl) (fun w' h => by kernel_rfl) (BI.start wz) ?_
            refine take_p 8 82 (v := .int .i64 m) rfl rfl rfl (by kernel_rfl) (by kernel_rfl) (by kernel_rfl) (fun w' h => by kernel_rfl) (BI.start wz) ?_
            refine take_p 9 83 (v := .slice (some ⟨b0, o2, none⟩) (k - m) (cu - m)) rfl rfl rfl (by kernel_rfl) (by kernel_rfl) (by kernel_rfl) (fun w' h => by rw [← HO3.out]; exact exec_fromI (n := k) hm hcu rfl (by kernel_rfl) (by kernel_rfl) w') (BI.start wz) ?_
            refine wpAnyH_all (rs := [3, 5]) (by kernel_rfl) (by decide) (fun j hj => ?_)
            have hj' : j = 3 ∨ j = 5 := by simpa using hj
            rcases hj' with rfl | rfl
            · refine op_call 3 77 rfl rfl rfl (f := 65) (args := #[.slice (some ⟨b0, 0, none⟩) m cu]) (by kernel_rfl) ?_
              refine (l1_own ((casts L).take m) b0 0 m cu wz.drew hlt1 (by omega) (by exact HR1.out)).mono ?_
              rintro e w5 ⟨u, rfl, hu, b5⟩
              have B5 : BI wz w5 := BI.next (BI.start wz) b5
              refine ⟨_, rfl, B5, ?_⟩
              refine wpAnyH_all (rs := [5]) (by kernel_rfl) (by decide) (fun j hj => ?_)
              obtain rfl : j = 5 := by simpa using hj
              have By : BI wz (w5.alloc (.cells #[.int .i64 (k : Int)] 3)) := Below.alloc B5 B5.size _
              refine op_valR 5 79 rfl rfl rfl (exec_one (x := (k : Int)) rfl (by kernel_rfl) w5) ⟨By, ?_⟩
              have hu2 : OwnI (w5.alloc (.cells #[.int .i64 (k : Int)] 3)) wz.heap.size u ((casts L).take m) := hu.alloc _
              have hg2 : Rd (w5.alloc (.cells #[.int .i64 (k : Int)] 3)) (some ⟨w5.heap.size, 0, none⟩) (ints [(k : Int)]) := rd_oneI (heap_alloc_new _ _)
              obtain ⟨gb, hgb⟩ : ∃ gb, w5.heap.size = gb := ⟨_, rfl⟩
              rw [hgb] at hg2
              rw [hgb]
              obtain ⟨wy, hwy⟩ : ∃ wy, w5.alloc (.cells #[.int .i64 (k : Int)] 3) = wy := ⟨_, rfl⟩
              rw [hwy] at hu2 hg2 By
              rw [hwy]
              clear hwy hgb b5 B5
              refine wpAnyH_all (rs := [6]) (by kernel_rfl) (by decide) (fun j hj => ?_)
              obtain rfl : j = 6 := by simpa using hj
              refine op_app (n := 1) (c := 1) 6 80 (.tmp 77) (.tmp 79) rfl rfl rfl rfl (by kernel_rfl) (by kernel_rfl) rfl hg2 hu2 (by rw [hlt1]; omega) By.size ?_
              intro v1 w7 h1 g1
              have B7 : BI wz w7 := Below.grown By g1 By.size (fun k e => (hu2.span k e).1)
              refine ⟨B7, ?_⟩
              refine wpAnyH_all (rs := [10]) (by kernel_rfl) (by decide) (fun j hj => ?_)
              obtain rfl : j = 10 := by simpa using hj
              refine op_app (n := k - m) (c := cu - m) 10 84 (.tmp 80) (.tmp 83) rfl rfl rfl rfl (by kernel_rfl) (by kernel_rfl) hlt2 (Rd.below HR2.out B7) h1 (by rw [List.length_append, hlt1]; simp; omega) B7.size ?_
              intro v2 w8 h2 g2
              have B8 : BI wz w8 := Below.grown B7 g2 B7.size (fun k e => (h1.span k e).1)
              refine ⟨B8, ?_⟩
              rw [← HIc.out] at h2
              obtain ⟨p2, c2, rfl, hc2, -, hp2⟩ := h2.form
              have hl8 : (casts (insK L k m)).length = k + 1 := by rw [casts_len, HIp.out.length_eq, List.length_range]
              obtain ⟨b2, rfl, -⟩ := hp2 (by rw [hl8]; omega)
              rw [hl8] at h2 hc2 ⊢
              refine seq_of [11] _ _ _ (by kernel_rfl) B8 (runs_cons 11 4 (w' := w8) (v := .slice (some ⟨b2, 0, none⟩) (k + 1) c2) rfl rfl rfl (by kernel_rfl) B8 (NoPanic.normal ?_))
              have B9 : Below wo.heap.size wo w8 := HBj.out.trans (B8.mono hsz)
              have HX1 : Hid (OwnI w8 w.heap.size (.slice (some ⟨b2, 0, none⟩) (k + 1) c2) (casts (insK L k m))) := Lib.hid (OwnI.base h2 (Nat.le_trans hsw hsz))
              have HX2 := Lib.hid (OwnI.below HV.out B9)
              have HX3 := Lib.hid (RdG.below HR.out B9)
              have HX4 := Lib.hid (K1.out.below B9)
              have HX5 : Hid (Below w.heap.size w w8) := Lib.hid (HB.out.trans (B9.mono hsw))
              clear h1 h2 g1 g2 B7 B8 hg2 hu2 hu B9
              simp only [Act.put, List.setIfInBounds_toArray, List.set_cons_zero, List.set_cons_succ]
              go_wp2_with fail
              go_roundw
              case rel => exact ⟨k + 1, b2, c2, insK L k m, by omega, rfl, by go_num, hc2, Lib.hid ⟨HIp.out, HIs.out⟩, HX1, HX2, HX3, HX4, HX5⟩
              case measure => simp [intOf]; omega
            · have By0 : BI wz (wz.drew.alloc (.cells #[.int .i64 (k : Int)] 3)) := Below.alloc (BI.start wz) (Nat.le_refl _) _
              refine op_valR 5 79 rfl rfl rfl (exec_one (x := (k : Int)) rfl (by kernel_rfl) wz.drew) ⟨By0, ?_⟩
              refine wpAnyH_all (rs := [3]) (by kernel_rfl) (by decide) (fun j hj => ?_)
              obtain rfl : j = 3 := by simpa using hj
              refine op_call 3 77 rfl rfl rfl (f := 65) (args := #[.slice (some ⟨b0, 0, none⟩) m cu]) (by kernel_rfl) ?_
              have hg1 : Rd (wz.drew.alloc (.cells #[.int .i64 (k : Int)] 3)) (some ⟨wz.drew.heap.size, 0, none⟩) (ints [(k : Int)]) := rd_oneI (heap_alloc_new _ _)
              have hs5 : wz.heap.size ≤ (wz.drew.alloc (.cells #[.int .i64 (k : Int)] 3)).heap.size := By0.size
              refine (l1_own ((casts L).take m) b0 0 m cu _ hlt1 (by omega) (Rd.alloc (w := wz.drew) (by exact HR1.out) _)).mono ?_
              rintro e wy ⟨u, rfl, hu, b5⟩
              have By : BI wz wy := BI.next By0 b5
              refine ⟨_, rfl, By, ?_⟩
              have hu2 : OwnI wy wz.heap.size u ((casts L).take m) := OwnI.base hu hs5
              have hg2 := hg1.below b5
              obtain ⟨gb, hgb⟩ : ∃ gb, wz.drew.heap.size = gb := ⟨_, rfl⟩
              rw [hgb] at hg2
              rw [hgb]
              clear hgb b5 hg1 hs5 By0
              refine wpAnyH_all (rs := [6]) (by kernel_rfl) (by decide) (fun j hj => ?_)
              obtain rfl : j = 6 := by simpa using hj
              refine op_app (n := 1) (c := 1) 6 80 (.tmp 77) (.tmp 79) rfl rfl rfl rfl (by kernel_rfl) (by kernel_rfl) rfl hg2 hu2 (by rw [hlt1]; omega) By.size ?_
              intro v1 w7 h1 g1
              have B7 : BI wz w7 := Below.grown By g1 By.size (fun k e => (hu2.span k e).1)
              refine ⟨B7, ?_⟩
              refine wpAnyH_all (rs := [10]) (by kernel_rfl) (by decide) (fun j hj => ?_)
              obtain rfl : j = 10 := by simpa using hj
              refine op_app (n := k - m) (c := cu - m) 10 84 (.tmp 80) (.tmp 83) rfl rfl rfl rfl (by kernel_rfl) (by kernel_rfl) hlt2 (Rd.below HR2.out B7) h1 (by rw [List.length_append, hlt1]; simp; omega) B7.size ?_
              intro v2 w8 h2 g2
              have B8 : BI wz w8 := Below.grown B7 g2 B7.size (fun k e => (h1.span k e).1)
              refine ⟨B8, ?_⟩
              rw [← HIc.out] at h2
              obtain ⟨p2, c2, rfl, hc2, -, hp2⟩ := h2.form
              have hl8 : (casts (insK L k m)).length = k + 1 := by rw [casts_len, HIp.out.length_eq, List.length_range]
              obtain ⟨b2, rfl, -⟩ := hp2 (by rw [hl8]; omega)
              rw [hl8] at h2 hc2 ⊢
              refine seq_of [11] _ _ _ (by kernel_rfl) B8 (runs_cons 11 4 (w' := w8) (v := .slice (some ⟨b2, 0, none⟩) (k + 1) c2) rfl rfl rfl (by kernel_rfl) B8 (NoPanic.normal ?_))
              have B9 : Below wo.heap.size wo w8 := HBj.out.trans (B8.mono hsz)
              have HX1 : Hid (OwnI w8 w.heap.size (.slice (some ⟨b2, 0, none⟩) (k + 1) c2) (casts (insK L k m))) := Lib.hid (OwnI.base h2 (Nat.le_trans hsw hsz))
              have HX2 := Lib.hid (OwnI.below HV.out B9)
              have HX3 := Lib.hid (RdG.below HR.out B9)
              have HX4 := Lib.hid (K1.out.below B9)
              have HX5 : Hid (Below w.heap.size w w8) := Lib.hid (HB.out.trans (B9.mono hsw))
              clear h1 h2 g1 g2 B7 B8 hg2 hu2 hu B9
              simp only [Act.put, List.setIfInBounds_toArray, List.set_cons_zero, List.set_cons_succ]
              go_wp2_with fail
              go_roundw
              case rel => exact ⟨k + 1, b2, c2, insK L k m, by omega, rfl, by go_num, hc2, Lib.hid ⟨HIp.out, HIs.out⟩, HX1, HX2, HX3, HX4, HX5⟩
              case measure => simp [intOf]; omega
          · obtain ⟨q, hqm⟩ : ∃ q, m = q + 1 := ⟨m - 1, by omega⟩
            obtain ⟨x, hx⟩ : ∃ x, L[q]? = some x := ⟨_, List.getElem?_eq_getElem (by rw [HLl.out]; omega)⟩
            have hxk : x < k := List.mem_range.1 (HL.out.1.mem_iff.1 (List.mem_of_getElem? hx))
            obtain ⟨y, hy, d0, -⟩ := HOi.out.slot (by rw [casts_len, HLl.out]) q (by omega)
            rw [casts_at hx] at hy
            cases hy
            obtain ⟨bv, ov, px, rfl, -, hpx, c0⟩ := HVi.out.rd.int (k := k) (by rw [HPl.out]; exact hlt)
            obtain ⟨bv', ov', py, e', -, hpy, c1⟩ := HVi.out.rd.int (k := x) (by rw [HPl.out]; omega)
            cases e'
            obtain ⟨bw, ow, wx, rfl, -, hwx, f0⟩ := HRi.out.c.int (k := k) (by rw [HWl.out]; exact hlt)
            obtain ⟨bw', ow', wy, e', -, hwy, f1⟩ := HRi.out.c.int (k := x) (by rw [HWl.out]; omega)
            cases e'
            rw [HPa.out k hlt] at hpx; cases hpx
            rw [HPa.out x (by omega)] at hpy; cases hpy
            rw [HWa.out k hlt] at hwx; cases hwx
            rw [HWa.out x (by omega)] at hwy; cases hwy
            obtain ⟨-, -, -, -, k1e⟩ := K1i.out.cell
            have x0 : (0 : Int) ≤ (x : Int) := by omega
            have x1 : (x : Int) < (nw : Int) := by omega
            have q0 : (0 : Int) ≤ (q : Int) := by omega
            have q1' : (q : Int) < (k : Int) := by omega
            have qw : IntKind.i64.wrap ((m : Int) - 1) = (q : Int) := by rw [show ((m : Int) - 1) = (q : Int) by omega]; exact IntWalk.i64_in _ (by omega)
            have HX := Lib.hid hx
            have hq1 : decide ((0 : Int) < (m : Int)) = true := decide_eq_true (by omega)
            have hq1n : decide (0 < m) = true := decide_eq_true (by omega)
            have HQ := Lib.hid hqm
            have hqk : q < k := by omega
            have hmq : m - 1 = q := by omega
            clear hx hqm
            obtain ⟨px, hpx⟩ : ∃ px, pf k = px := ⟨_, rfl⟩
            obtain ⟨py, hpy⟩ : ∃ py, pf x = py := ⟨_, rfl⟩
            obtain ⟨wx, hwx⟩ : ∃ wx, wf k = wx := ⟨_, rfl⟩
            obtain ⟨wy, hwy⟩ : ∃ wy, wf x = wy := ⟨_, rfl⟩
            have HPx := Lib.hid hpx
            have HPy := Lib.hid hpy
            have HWx := Lib.hid hwx
            have HWy := Lib.hid hwy
            rw [hpx] at c0
            rw [hpy] at c1
            rw [hwx] at f0
            rw [hwy] at f1
            clear hpx hpy hwx hwy hm0
            by_cases h1 : py < px
            · have d1 : decide (py < px) = true := decide_eq_true h1
              have HA2 : Hid (∀ j z, q ≤ j → L[j]? = some z → bef pf wf k z) := Lib.hid (fun j z hj hz => by
                by_cases e : j = q
                · subst e; rw [HX.out] at hz; cases hz; exact .inl (by rw [HPx.out, HPy.out]; exact h1)
                · exact HA.out j z (by have := HQ.out; omega) hz)
              clear h1
              go_upto_region 9 with fail
              go_quiet (fail)
              have HBj := Lib.hid (HBi.out.trans (by repeat (first | with_reducible exact Below.refl _ _ | with_reducible apply bdN | with_reducible apply Below.drew) : Below wo.heap.size wr (wr.drewN nq)))
              go_wp2_with fail
              go_roundw
              case rel => exact ⟨q, by omega, by go_num, HA2, HBj⟩
              case measure => (have := HQ.out; simp [intOf]; omega)
            · have d1 : decide (py < px) = false := decide_eq_false h1
              by_cases h2 : px = py
              · have d2 : (px == py) = true := by simp [h2]
                by_cases h3 : wx < wy
                · have d3 : decide (wx < wy) = true := decide_eq_true h3
                  have HA2 : Hid (∀ j z, q ≤ j → L[j]? = some z → bef pf wf k z) := Lib.hid (fun j z hj hz => by
                    by_cases e : j = q
                    · subst e; rw [HX.out] at hz; cases hz; exact .inr ⟨by rw [HPx.out, HPy.out]; exact h2, .inl (by rw [HWx.out, HWy.out]; exact h3)⟩
                    · exact HA.out j z (by have := HQ.out; omega) hz)
                  clear h1 h2 h3
                  go_upto_region 9 with fail
                  go_quiet (fail)
                  have HBj := Lib.hid (HBi.out.trans (by repeat (first | with_reducible exact Below.refl _ _ | with_reducible apply bdN | with_reducible apply Below.drew) : Below wo.heap.size wr (wr.drewN nq)))
                  go_wp2_with fail
                  go_roundw
                  case rel => exact ⟨q, by omega, by go_num, HA2, HBj⟩
                  case measure => (have := HQ.out; simp [intOf]; omega)
                · have d3 : decide (wx < wy) = false := decide_eq_false h3
                  have H2 : Hid (∀ z, 0 < m → L[m - 1]? = some z → bef pf wf z k) := Lib.hid (fun z _ hz => by
                    rw [hmq, HX.out] at hz; cases hz
                    unfold bef; rw [HPx.out, HPy.out, HWx.out, HWy.out]; omega)
                  clear h1 h2 h3
                  go_upto_region 9 with fail
                  go_quiet (fail)
                  have HBj := Lib.hid (HBi.out.trans (by repeat (first | with_reducible exact Below.refl _ _ | with_reducible apply bdN | with_reducible apply Below.drew) : Below wo.heap.size wr (wr.drewN nq)))
                  go_upto_region 11 with fail
                  obtain ⟨wz, hwz⟩ : ∃ wz, wr.drewN nq = wz := ⟨_, rfl⟩
                  rw [hwz] at HBj
                  rw [hwz]
                  clear hwz
                  have HOz := Lib.hid (OwnI.below HO2.out HBj.out)
                  have hrz := HOz.out.rd
                  have HIs := Lib.hid (insK_sorted HL.out.2 HA.out H2.out (by rw [HLl.out]; exact hm))
                  have HIp := Lib.hid (insK_perm m HL.out.1)
                  have HIc := Lib.hid (casts_ins L k m)
                  have hlt1 : ((casts L).take m).length = m := by rw [List.length_take, casts_len, HLl.out]; omega
                  have hlt2 : ((casts L).drop m).length = k - m := by rw [List.length_drop, casts_len, HLl.out]
                  obtain ⟨o2, ho2⟩ : ∃ o2, (if cu = m then some (⟨b0, 0, none⟩ : Addr) else some ⟨b0, 0 + m, none⟩) = some ⟨b0, o2, none⟩ := by split <;> exact ⟨_, rfl⟩
                  have hr2 : Rd wz (some ⟨b0, o2, none⟩) (ints ((casts L).drop m)) := by rw [← ho2]; exact rd_dropI hrz m (by rw [casts_len, HLl.out]; exact hcu)
                  have hr1 := rd_takeI hrz m
                  have HR1 := Lib.hid hr1
                  have HR2 := Lib.hid hr2
                  have HO3 := Lib.hid ho2
                  clear hr1 hr2 hrz ho2
                  have hsz := HBj.out.size
                  have hsw := HB.out.size
                  refine region_any (BI wz) 12 (by kernel_rfl) rfl ?_
                  refine take_p 0 74 (v := .slice (some ⟨b0, 0, none⟩) k cu) rfl rfl rfl (by kernel_rfl) (by kernel_rfl) (by kernel_rfl) (fun w' h => by kernel_rfl) (BI.start wz) ?_
                  refine take_p 1 75 (v := .int .i64 m) rfl rfl rfl (by kernel_rfl) (by kernel_rfl) (by kernel_rfl) (fun w' h => by kernel_rfl) (BI.start wz) ?_
                  refine take_p 2 76 (v := .slice (some ⟨b0, 0, none⟩) m cu) rfl rfl rfl (by kernel_rfl) (by kernel_rfl) (by kernel_rfl) (fun w' h => exec_toI (n := k) (by omega) rfl (by kernel_rfl) (by kernel_rfl) w') (BI.start wz) ?_
                  refine take_p 4 78 (v := .int .i64 k) rfl rfl rfl (by kernel_rfl) (by kernel_rfl) (by kernel_rfl) (fun w' h => by kernel_rfl) (BI.start wz) ?_
                  refine take_p 7 81 (v := .slice (some ⟨b0, 0, none⟩) k cu) rfl rfl rfl (by kernel_rfl) (by kernel_rfl) (by kernel_rfl) (fun w' h => by kernel_rfl) (BI.start wz) ?_
                  refine take_p 8 82 (v := .int .i64 m) rfl rfl rfl (by kernel_rfl) (by kernel_rfl) (by kernel_rfl) (fun w' h => by kernel_rfl) (BI.start wz) ?_
                  refine take_p 9 83 (v := .slice (some ⟨b0, o2, none⟩) (k - m) (cu - m)) rfl rfl rfl (by kernel_rfl) (by kernel_rfl) (by kernel_rfl) (fun w' h => by rw [← HO3.out]; exact exec_fromI (n := k) hm hcu rfl (by kernel_rfl) (by kernel_rfl) w') (BI.start wz) ?_
                  refine wpAnyH_all (rs := [3, 5]) (by kernel_rfl) (by decide) (fun j hj => ?_)
                  have hj' : j = 3 ∨ j = 5 := by simpa using hj
                  rcases hj' with rfl | rfl
                  · refine op_call 3 77 rfl rfl rfl (f := 65) (args := #[.slice (some ⟨b0, 0, none⟩) m cu]) (by kernel_rfl) ?_
                    refine (l1_own ((casts L).take m) b0 0 m cu wz.drew hlt1 (by omega) (by exact HR1.out)).mono ?_
                    rintro e w5 ⟨u, rfl, hu, b5⟩
                    have B5 : BI wz w5 := BI.next (BI.start wz) b5
                    refine ⟨_, rfl, B5, ?_⟩
                    refine wpAnyH_all (rs := [5]) (by kernel_rfl) (by decide) (fun j hj => ?_)
                    obtain rfl : j = 5 := by simpa using hj
                    have By : BI wz (w5.alloc (.cells #[.int .i64 (k : Int)] 3)) := Below.alloc B5 B5.size _
                    refine op_valR 5 79 rfl rfl rfl (exec_one (x := (k : Int)) rfl (by kernel_rfl) w5) ⟨By, ?_⟩
                    have hu2 : OwnI (w5.alloc (.cells #[.int .i64 (k : Int)] 3)) wz.heap.size u ((casts L).take m) := hu.alloc _
                    have hg2 : Rd (w5.alloc (.cells #[.int .i64 (k : Int)] 3)) (some ⟨w5.heap.size, 0, none⟩) (ints [(k : Int)]) := rd_oneI (heap_alloc_new _ _)
                    obtain ⟨gb, hgb⟩ : ∃ gb, w5.heap.size = gb := ⟨_, rfl⟩
                    rw [hgb] at hg2
                    rw [hgb]
                    obtain ⟨wy, hwy⟩ : ∃ wy, w5.alloc (.cells #[.int .i64 (k : Int)] 3) = wy := ⟨_, rfl⟩
                    rw [hwy] at hu2 hg2 By
                    rw [hwy]
                    clear hwy hgb b5 B5
                    refine wpAnyH_all (rs := [6]) (by kernel_rfl) (by decide) (fun j hj => ?_)
                    obtain rfl : j = 6 := by simpa using hj
                    refine op_app (n := 1) (c := 1) 6 80 (.tmp 77) (.tmp 79) rfl rfl rfl rfl (by kernel_rfl) (by kernel_rfl) rfl hg2 hu2 (by rw [hlt1]; omega) By.size ?_
                    intro v1 w7 h1 g1
                    have B7 : BI wz w7 := Below.grown By g1 By.size (fun k e => (hu2.span k e).1)
                    refine ⟨B7, ?_⟩
                    refine wpAnyH_all (rs := [10]) (by kernel_rfl) (by decide) (fun j hj => ?_)
                    obtain rfl : j = 10 := by simpa using hj
                    refine op_app (n := k - m) (c := cu - m) 10 84 (.tmp 80) (.tmp 83) rfl rfl rfl rfl (by kernel_rfl) (by kernel_rfl) hlt2 (Rd.below HR2.out B7) h1 (by rw [List.length_append, hlt1]; simp; omega) B7.size ?_
                    intro v2 w8 h2 g2
                    have B8 : BI wz w8 := Below.grown B7 g2 B7.size (fun k e => (h1.span k e).1)
                    refine ⟨B8, ?_⟩
                    rw [← HIc.out] at h2
                    obtain ⟨p2, c2, rfl, hc2, -, hp2⟩ := h2.form
                    have hl8 : (casts (insK L k m)).length = k + 1 := by rw [casts_len, HIp.out.length_eq, List.length_range]
                    obtain ⟨b2, rfl, -⟩ := hp2 (by rw [hl8]; omega)
                    rw [hl8] at h2 hc2 ⊢
                    refine seq_of [11] _ _ _ (by kernel_rfl) B8 (runs_cons 11 4 (w' := w8) (v := .slice (some ⟨b2, 0, none⟩) (k + 1) c2) rfl rfl rfl (by kernel_rfl) B8 (NoPanic.normal ?_))
                    have B9 : Below wo.heap.size wo w8 := HBj.out.trans (B8.mono hsz)
                    have HX1 : Hid (OwnI w8 w.heap.size (.slice (some ⟨b2, 0, none⟩) (k + 1) c2) (casts (insK L k m))) := Lib.hid (OwnI.base h2 (Nat.le_trans hsw hsz))
                    have HX2 := Lib.hid (OwnI.below HV.out B9)
                    have HX3 := Lib.hid (RdG.below HR.out B9)
                    have HX4 := Lib.hid (K1.out.below B9)
                    have HX5 : Hid (Below w.heap.size w w8) := Lib.hid (HB.out.trans (B9.mono hsw))
                    clear h1 h2 g1 g2 B7 B8 hg2 hu2 hu B9
                    simp only [Act.put, List.setIfInBounds_toArray, List.set_cons_zero, List.set_cons_succ]
                    go_wp2_with fail
                    go_roundw
                    case rel => exact ⟨k + 1, b2, c2, insK L k m, by omega, rfl, by go_num, hc2, Lib.hid ⟨HIp.out, HIs.out⟩, HX1, HX2, HX3, HX4, HX5⟩
                    case measure => simp [intOf]; omega
                  · have By0 : BI wz (wz.drew.alloc (.cells #[.int .i64 (k : Int)] 3)) := Below.alloc (BI.start wz) (Nat.le_refl _) _
                    refine op_valR 5 79 rfl rfl rfl (exec_one (x := (k : Int)) rfl (by kernel_rfl) wz.drew) ⟨By0, ?_⟩
                    refine wpAnyH_all (rs := [3]) (by kernel_rfl) (by decide) (fun j hj => ?_)
                    obtain rfl : j = 3 := by simpa using hj
                    refine op_call 3 77 rfl rfl rfl (f := 65) (args := #[.slice (some ⟨b0, 0, none⟩) m cu]) (by kernel_rfl) ?_
                    have hg1 : Rd (wz.drew.alloc (.cells #[.int .i64 (k : Int)] 3)) (some ⟨wz.drew.heap.size, 0, none⟩) (ints [(k : Int)]) := rd_oneI (heap_alloc_new _ _)
                    have hs5 : wz.heap.size ≤ (wz.drew.alloc (.cells #[.int .i64 (k : Int)] 3)).heap.size := By0.size
                    refine (l1_own ((casts L).take m) b0 0 m cu _ hlt1 (by omega) (Rd.alloc (w := wz.drew) (by exact HR1.out) _)).mono ?_
                    rintro e wy ⟨u, rfl, hu, b5⟩
                    have By : BI wz wy := BI.next By0 b5
                    refine ⟨_, rfl, By, ?_⟩
                    have hu2 : OwnI wy wz.heap.size u ((casts L).take m) := OwnI.base hu hs5
                    have hg2 := hg1.below b5
                    obtain ⟨gb, hgb⟩ : ∃ gb, wz.drew.heap.size = gb := ⟨_, rfl⟩
                    rw [hgb] at hg2
                    rw [hgb]
                    clear hgb b5 hg1 hs5 By0
                    refine wpAnyH_all (rs := [6]) (by kernel_rfl) (by decide) (fun j hj => ?_)
                    obtain rfl : j = 6 := by simpa using hj
                    refine op_app (n := 1) (c := 1) 6 80 (.tmp 77) (.tmp 79) rfl rfl rfl rfl (by kernel_rfl) (by kernel_rfl) rfl hg2 hu2 (by rw [hlt1]; omega) By.size ?_
                    intro v1 w7 h1 g1
                    have B7 : BI wz w7 := Below.grown By g1 By.size (fun k e => (hu2.span k e).1)
                    refine ⟨B7, ?_⟩
                    refine wpAnyH_all (rs := [10]) (by kernel_rfl) (by decide) (fun j hj => ?_)
                    obtain rfl : j = 10 := by simpa using hj
                    refine op_app (n := k - m) (c := cu - m) 10 84 (.tmp 80) (.tmp 83) rfl rfl rfl rfl (by kernel_rfl) (by kernel_rfl) hlt2 (Rd.below HR2.out B7) h1 (by rw [List.length_append, hlt1]; simp; omega) B7.size ?_
                    intro v2 w8 h2 g2
                    have B8 : BI wz w8 := Below.grown B7 g2 B7.size (fun k e => (h1.span k e).1)
                    refine ⟨B8, ?_⟩
                    rw [← HIc.out] at h2
                    obtain ⟨p2, c2, rfl, hc2, -, hp2⟩ := h2.form
                    have hl8 : (casts (insK L k m)).length = k + 1 := by rw [casts_len, HIp.out.length_eq, List.length_range]
                    obtain ⟨b2, rfl, -⟩ := hp2 (by rw [hl8]; omega)
                    rw [hl8] at h2 hc2 ⊢
                    refine seq_of [11] _ _ _ (by kernel_rfl) B8 (runs_cons 11 4 (w' := w8) (v := .slice (some ⟨b2, 0, none⟩) (k + 1) c2) rfl rfl rfl (by kernel_rfl) B8 (NoPanic.normal ?_))
                    have B9 : Below wo.heap.size wo w8 := HBj.out.trans (B8.mono hsz)
                    have HX1 : Hid (OwnI w8 w.heap.size (.slice (some ⟨b2, 0, none⟩) (k + 1) c2) (casts (insK L k m))) := Lib.hid (OwnI.base h2 (Nat.le_trans hsw hsz))
                    have HX2 := Lib.hid (OwnI.below HV.out B9)
                    have HX3 := Lib.hid (RdG.below HR.out B9)
                    have HX4 := Lib.hid (K1.out.below B9)
                    have HX5 : Hid (Below w.heap.size w w8) := Lib.hid (HB.out.trans (B9.mono hsw))
                    clear h1 h2 g1 g2 B7 B8 hg2 hu2 hu B9
                    simp only [Act.put, List.setIfInBounds_toArray, List.set_cons_zero, List.set_cons_succ]
                    go_wp2_with fail
                    go_roundw
                    case rel => exact ⟨k + 1, b2, c2, insK L k m, by omega, rfl, by go_num, hc2, Lib.hid ⟨HIp.out, HIs.out⟩, HX1, HX2, HX3, HX4, HX5⟩
                    case measure => simp [intOf]; omega
              · have d2 : (px == py) = false := by simp [h2]
                have H2 : Hid (∀ z, 0 < m → L[m - 1]? = some z → bef pf wf z k) := Lib.hid (fun z _ hz => by
                  rw [hmq, HX.out] at hz; cases hz
                  unfold bef; rw [HPx.out, HPy.out, HWx.out, HWy.out]; omega)
                clear h1 h2
                go_upto_region 9 with fail
                go_quiet (fail)
                have HBj := Lib.hid (HBi.out.trans (by repeat (first | with_reducible exact Below.refl _ _ | with_reducible apply bdN | with_reducible apply Below.drew) : Below wo.heap.size wr (wr.drewN nq)))
                go_upto_region 11 with fail
                obtain ⟨wz, hwz⟩ : ∃ wz, wr.drewN nq = wz := ⟨_, rfl⟩
                rw [hwz] at HBj
                rw [hwz]
                clear hwz
                have HOz := Lib.hid (OwnI.below HO2.out HBj.out)
                have hrz := HOz.out.rd
                have HIs := Lib.hid (insK_sorted HL.out.2 HA.out H2.out (by rw [HLl.out]; exact hm))
                have HIp := Lib.hid (insK_perm m HL.out.1)
                have HIc := Lib.hid (casts_ins L k m)
                have hlt1 : ((casts L).take m).length = m := by rw [List.length_take, casts_len, HLl.out]; omega
                have hlt2 : ((casts L).drop m).length = k - m := by rw [List.length_drop, casts_len, HLl.out]
                obtain ⟨o2, ho2⟩ : ∃ o2, (if cu = m then some (⟨b0, 0, none⟩ : Addr) else some ⟨b0, 0 + m, none⟩) = some ⟨b0, o2, none⟩ := by split <;> exact ⟨_, rfl⟩
                have hr2 : Rd wz (some ⟨b0, o2, none⟩) (ints ((casts L).drop m)) := by rw [← ho2]; exact rd_dropI hrz m (by rw [casts_len, HLl.out]; exact hcu)
                have hr1 := rd_takeI hrz m
                have HR1 := Lib.hid hr1
                have HR2 := Lib.hid hr2
                have HO3 := Lib.hid ho2
                clear hr1 hr2 hrz ho2
                have hsz := HBj.out.size
                have hsw := HB.out.size
                refine region_any (BI wz) 12 (by kernel_rfl) rfl ?_
                refine take_p 0 74 (v := .slice (some ⟨b0, 0, none⟩) k cu) rfl rfl rfl (by kernel_rfl) (by kernel_rfl) (by kernel_rfl) (fun w' h => by kernel_rfl) (BI.start wz) ?_
                refine take_p 1 75 (v := .int .i64 m) rfl rfl rfl (by kernel_rfl) (by kernel_rfl) (by kernel_rfl) (fun w' h => by kernel_rfl) (BI.start wz) ?_
                refine take_p 2 76 (v := .slice (some ⟨b0, 0, none⟩) m cu) rfl rfl rfl (by kernel_rfl) (by kernel_rfl) (by kernel_rfl) (fun w' h => exec_toI (n := k) (by omega) rfl (by kernel_rfl) (by kernel_rfl) w') (BI.start wz) ?_
                refine take_p 4 78 (v := .int .i64 k) rfl rfl rfl (by kernel_rfl) (by kernel_rfl) (by kernel_rfl) (fun w' h => by kernel_rfl) (BI.start wz) ?_
                refine take_p 7 81 (v := .slice (some ⟨b0, 0, none⟩) k cu) rfl rfl rfl (by kernel_rfl) (by kernel_rfl) (by kernel_rfl) (fun w' h => by kernel_rfl) (BI.start wz) ?_
                refine take_p 8 82 (v := .int .i64 m) rfl rfl rfl (by kernel_rfl) (by kernel_rfl) (by kernel_rfl) (fun w' h => by kernel_rfl) (BI.start wz) ?_
                refine take_p 9 83 (v := .slice (some ⟨b0, o2, none⟩) (k - m) (cu - m)) rfl rfl rfl (by kernel_rfl) (by kernel_rfl) (by kernel_rfl) (fun w' h => by rw [← HO3.out]; exact exec_fromI (n := k) hm hcu rfl (by kernel_rfl) (by kernel_rfl) w') (BI.start wz) ?_
                refine wpAnyH_all (rs := [3, 5]) (by kernel_rfl) (by decide) (fun j hj => ?_)
                have hj' : j = 3 ∨ j = 5 := by simpa using hj
                rcases hj' with rfl | rfl
                · refine op_call 3 77 rfl rfl rfl (f := 65) (args := #[.slice (some ⟨b0, 0, none⟩) m cu]) (by kernel_rfl) ?_
                  refine (l1_own ((casts L).take m) b0 0 m cu wz.drew hlt1 (by omega) (by exact HR1.out)).mono ?_
                  rintro e w5 ⟨u, rfl, hu, b5⟩
                  have B5 : BI wz w5 := BI.next (BI.start wz) b5
                  refine ⟨_, rfl, B5, ?_⟩
                  refine wpAnyH_all (rs := [5]) (by kernel_rfl) (by decide) (fun j hj => ?_)
                  obtain rfl : j = 5 := by simpa using hj
                  have By : BI wz (w5.alloc (.cells #[.int .i64 (k : Int)] 3)) := Below.alloc B5 B5.size _
                  refine op_valR 5 79 rfl rfl rfl (exec_one (x := (k : Int)) rfl (by kernel_rfl) w5) ⟨By, ?_⟩
                  have hu2 : OwnI (w5.alloc (.cells #[.int .i64 (k : Int)] 3)) wz.heap.size u ((casts L).take m) := hu.alloc _
                  have hg2 : Rd (w5.alloc (.cells #[.int .i64 (k : Int)] 3)) (some ⟨w5.heap.size, 0, none⟩) (ints [(k : Int)]) := rd_oneI (heap_alloc_new _ _)
                  obtain ⟨gb, hgb⟩ : ∃ gb, w5.heap.size = gb := ⟨_, rfl⟩
                  rw [hgb] at hg2
                  rw [hgb]
                  obtain ⟨wy, hwy⟩ : ∃ wy, w5.alloc (.cells #[.int .i64 (k : Int)] 3) = wy := ⟨_, rfl⟩
                  rw [hwy] at hu2 hg2 By
                  rw [hwy]
                  clear hwy hgb b5 B5
                  refine wpAnyH_all (rs := [6]) (by kernel_rfl) (by decide) (fun j hj => ?_)
                  obtain rfl : j = 6 := by simpa using hj
                  refine op_app (n := 1) (c := 1) 6 80 (.tmp 77) (.tmp 79) rfl rfl rfl rfl (by kernel_rfl) (by kernel_rfl) rfl hg2 hu2 (by rw [hlt1]; omega) By.size ?_
                  intro v1 w7 h1 g1
                  have B7 : BI wz w7 := Below.grown By g1 By.size (fun k e => (hu2.span k e).1)
                  refine ⟨B7, ?_⟩
                  refine wpAnyH_all (rs := [10]) (by kernel_rfl) (by decide) (fun j hj => ?_)
                  obtain rfl : j = 10 := by simpa using hj
                  refine op_app (n := k - m) (c := cu - m) 10 84 (.tmp 80) (.tmp 83) rfl rfl rfl rfl (by kernel_rfl) (by kernel_rfl) hlt2 (Rd.below HR2.out B7) h1 (by rw [List.length_append, hlt1]; simp; omega) B7.size ?_
                  intro v2 w8 h2 g2
                  have B8 : BI wz w8 := Below.grown B7 g2 B7.size (fun k e => (h1.span k e).1)
                  refine ⟨B8, ?_⟩
                  rw [← HIc.out] at h2
                  obtain ⟨p2, c2, rfl, hc2, -, hp2⟩ := h2.form
                  have hl8 : (casts (insK L k m)).length = k + 1 := by rw [casts_len, HIp.out.length_eq, List.length_range]
                  obtain ⟨b2, rfl, -⟩ := hp2 (by rw [hl8]; omega)
                  rw [hl8] at h2 hc2 ⊢
                  refine seq_of [11] _ _ _ (by kernel_rfl) B8 (runs_cons 11 4 (w' := w8) (v := .slice (some ⟨b2, 0, none⟩) (k + 1) c2) rfl rfl rfl (by kernel_rfl) B8 (NoPanic.normal ?_))
                  have B9 : Below wo.heap.size wo w8 := HBj.out.trans (B8.mono hsz)
                  have HX1 : Hid (OwnI w8 w.heap.size (.slice (some ⟨b2, 0, none⟩) (k + 1) c2) (casts (insK L k m))) := Lib.hid (OwnI.base h2 (Nat.le_trans hsw hsz))
                  have HX2 := Lib.hid (OwnI.below HV.out B9)
                  have HX3 := Lib.hid (RdG.below HR.out B9)
                  have HX4 := Lib.hid (K1.out.below B9)
                  have HX5 : Hid (Below w.heap.size w w8) := Lib.hid (HB.out.trans (B9.mono hsw))
                  clear h1 h2 g1 g2 B7 B8 hg2 hu2 hu B9
                  simp only [Act.put, List.setIfInBounds_toArray, List.set_cons_zero, List.set_cons_succ]
                  go_wp2_with fail
                  go_roundw
                  case rel => exact ⟨k + 1, b2, c2, insK L k m, by omega, rfl, by go_num, hc2, Lib.hid ⟨HIp.out, HIs.out⟩, HX1, HX2, HX3, HX4, HX5⟩
                  case measure => simp [intOf]; omega
                · have By0 : BI wz (wz.drew.alloc (.cells #[.int .i64 (k : Int)] 3)) := Below.alloc (BI.start wz) (Nat.le_refl _) _
                  refine op_valR 5 79 rfl rfl rfl (exec_one (x := (k : Int)) rfl (by kernel_rfl) wz.drew) ⟨By0, ?_⟩
                  refine wpAnyH_all (rs := [3]) (by kernel_rfl) (by decide) (fun j hj => ?_)
                  obtain rfl : j = 3 := by simpa using hj
                  refine op_call 3 77 rfl rfl rfl (f := 65) (args := #[.slice (some ⟨b0, 0, none⟩) m cu]) (by kernel_rfl) ?_
                  have hg1 : Rd (wz.drew.alloc (.cells #[.int .i64 (k : Int)] 3)) (some ⟨wz.drew.heap.size, 0, none⟩) (ints [(k : Int)]) := rd_oneI (heap_alloc_new _ _)
                  have hs5 : wz.heap.size ≤ (wz.drew.alloc (.cells #[.int .i64 (k : Int)] 3)).heap.size := By0.size
                  refine (l1_own ((casts L).take m) b0 0 m cu _ hlt1 (by omega) (Rd.alloc (w := wz.drew) (by exact HR1.out) _)).mono ?_
                  rintro e wy ⟨u, rfl, hu, b5⟩
                  have By : BI wz wy := BI.next By0 b5
                  refine ⟨_, rfl, By, ?_⟩
                  have hu2 : OwnI wy wz.heap.size u ((casts L).take m) := OwnI.base hu hs5
                  have hg2 := hg1.below b5
                  obtain ⟨gb, hgb⟩ : ∃ gb, wz.drew.heap.size = gb := ⟨_, rfl⟩
                  rw [hgb] at hg2
                  rw [hgb]
                  clear hgb b5 hg1 hs5 By0
                  refine wpAnyH_all (rs := [6]) (by kernel_rfl) (by decide) (fun j hj => ?_)
                  obtain rfl : j = 6 := by simpa using hj
                  refine op_app (n := 1) (c := 1) 6 80 (.tmp 77) (.tmp 79) rfl rfl rfl rfl (by kernel_rfl) (by kernel_rfl) rfl hg2 hu2 (by rw [hlt1]; omega) By.size ?_
                  intro v1 w7 h1 g1
                  have B7 : BI wz w7 := Below.grown By g1 By.size (fun k e => (hu2.span k e).1)
                  refine ⟨B7, ?_⟩
                  refine wpAnyH_all (rs := [10]) (by kernel_rfl) (by decide) (fun j hj => ?_)
                  obtain rfl : j = 10 := by simpa using hj
                  refine op_app (n := k - m) (c := cu - m) 10 84 (.tmp 80) (.tmp 83) rfl rfl rfl rfl (by kernel_rfl) (by kernel_rfl) hlt2 (Rd.below HR2.out B7) h1 (by rw [List.length_append, hlt1]; simp; omega) B7.size ?_
                  intro v2 w8 h2 g2
                  have B8 : BI wz w8 := Below.grown B7 g2 B7.size (fun k e => (h1.span k e).1)
                  refine ⟨B8, ?_⟩
                  rw [← HIc.out] at h2
                  obtain ⟨p2, c2, rfl, hc2, -, hp2⟩ := h2.form
                  have hl8 : (casts (insK L k m)).length = k + 1 := by rw [casts_len, HIp.out.length_eq, List.length_range]
                  obtain ⟨b2, rfl, -⟩ := hp2 (by rw [hl8]; omega)
                  rw [hl8] at h2 hc2 ⊢
                  refine seq_of [11] _ _ _ (by kernel_rfl) B8 (runs_cons 11 4 (w' := w8) (v := .slice (some ⟨b2, 0, none⟩) (k + 1) c2) rfl rfl rfl (by kernel_rfl) B8 (NoPanic.normal ?_))
                  have B9 : Below wo.heap.size wo w8 := HBj.out.trans (B8.mono hsz)
                  have HX1 : Hid (OwnI w8 w.heap.size (.slice (some ⟨b2, 0, none⟩) (k + 1) c2) (casts (insK L k m))) := Lib.hid (OwnI.base h2 (Nat.le_trans hsw hsz))
                  have HX2 := Lib.hid (OwnI.below HV.out B9)
                  have HX3 := Lib.hid (RdG.below HR.out B9)
                  have HX4 := Lib.hid (K1.out.below B9)
                  have HX5 : Hid (Below w.heap.size w w8) := Lib.hid (HB.out.trans (B9.mono hsw))
                  clear h1 h2 g1 g2 B7 B8 hg2 hu2 hu B9
                  simp only [Act.put, List.setIfInBounds_toArray, List.set_cons_zero, List.set_cons_succ]
                  go_wp2_with fail
                  go_roundw
                  case rel => exact ⟨k + 1, b2, c2, insK L k m, by omega, rfl, by go_num, hc2, Lib.hid ⟨HIp.out, HIs.out⟩, HX1, HX2, HX3, HX4, HX5⟩
                  case measure => simp [intOf]; omega
      · obtain rfl : k = nw := by omega
        have HE := Lib.hid ((congrArg casts (rk_is HL.out.1 HL.out.2)).trans HRr.out)
        rw [HE.out] at HO2
        go_wp2_with fail
        go_ret2
        exact ⟨_, rfl, HO2.out, HB.out⟩
end Go.Proofs.Ytjanphcfflahkaa.game

