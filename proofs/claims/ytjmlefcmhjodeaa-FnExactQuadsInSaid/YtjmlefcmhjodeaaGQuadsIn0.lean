/- Merged texts: Xs, Xt, Xz, X1, Vz, Vw, X2, X3. -/
import Derived.Test.YtjmlefcmhjodeaaXr
import Derived.Deep.DeepCutAuto
import Derived.Test.YtjmlefcmhjodeaaXy
import Derived.Maps.RangeWalk
import Derived.Test.YtjmlefcmhjodeaaVy
import Derived.Test.YtjmlefcmhjodeaaHd
/- pairsByThird. -/
namespace Go.Proofs.Ytjmlefcmhjodeaa.others
open Go.RowKit
open Go.Maps (Keyed)
open cards reg
set_option linter.unusedVariables false

theorem take_entry {ops : Array Oper} {rest : List Oper} {o : Oper} {a : Act} {Q : Exit → Act → World → Prop} {w w1 : World} {T : TypeId} {g : Nat} {key v : Value} (hg : o.guard = none) (m x : Operand) (hop : o.op = Op.mapEntry T m x)
    (hm : a.eval m = .map (some g)) (hx : a.eval x = key) (hrun : (Instr.mapEntry T (.map (some g)) key).run Try.prog w = .ok v w1) (hK : wpList Try.prog ops Q rest (a.put o.dst v) w1) : wpList Try.prog ops Q (o :: rest) a w := by
  refine wpList_plain hg fun K' hK' => ?_
  unfold Oper.wp
  simp [execOp, hop, hm, hx, hrun, Result.andThen]
  exact hK' _ _ hK
theorem take_entryStore {ops : Array Oper} {rest : List Oper} {o : Oper} {a : Act} {Q : Exit → Act → World → Prop} {w w1 : World} {T : TypeId} {g : Nat} {st v : Value} (hg : o.guard = none) (m s x : Operand) (hop : o.op = Op.entryStore T m s x)
    (hm : a.eval m = .map (some g)) (hs : a.eval s = st) (hx : a.eval x = v) (hrun : (Instr.entryStore T (.map (some g)) st v).run Try.prog w = .ok () w1) (hK : wpList Try.prog ops Q rest (a.put o.dst undef) w1) : wpList Try.prog ops Q (o :: rest) a w := by
  refine wpList_plain hg fun K' hK' => ?_
  unfold Oper.wp
  simp [execOp, hop, hm, hs, hx, hrun, Result.andThen]
  exact hK' _ _ hK
/-- Block g is a map whose slices are the lists F tells, in rows of their own from block B on, and not in u's row. -/
def PM (w : World) (B g m : Nat) (u : Value) (F : Cd → List A2) : Prop := ∃ V : Cd → Value, MapV w g m V ∧ (∀ x : Cd, x.ok = true → OwnA2 w B (V x) (F x)) ∧ (∀ x y : Cd, x.ok = true → y.ok = true → same x y = false → Ap (V x) (V y)) ∧ (∀ x : Cd, x.ok = true → Ap (V x) u) ∧ g < B
theorem ap_nil {u : Value} : Ap nilv u := fun g h => by simp [Value.ownBlock] at h
theorem PM.made {w w1 : World} {u : Value} (b : Below w.heap.size w w1) (h : MapV w1 w.heap.size 0 (fun _ => nilv)) : PM w1 (w.heap.size + 1) w.heap.size 0 u (fun _ => []) :=
  ⟨_, h, fun x _ => ⟨rfl, .inl ⟨rfl, rfl⟩⟩, fun _ _ _ _ _ => ap_nil, fun _ _ => ap_nil, Nat.lt_succ_self _⟩
theorem PM.below {w w1 : World} {B g m : Nat} {u : Value} {F : Cd → List A2} (h : PM w B g m u F) (b : Below w.heap.size w w1) : PM w1 B g m u F := by
  obtain ⟨V, h1, h2, h3, h4, h5⟩ := h
  exact ⟨V, h1.below b, fun x hx => (h2 x hx).below b, h3, h4, h5⟩
theorem PM.alloc {w : World} {B g m : Nat} {u : Value} {F : Cd → List A2} (h : PM w B g m u F) (o : Obj) : PM (w.alloc o) B g m u F := h.below ((Below.refl _ _).alloc (Nat.le_refl _) o)
theorem PM.drew {w : World} {B g m : Nat} {u : Value} {F : Cd → List A2} (h : PM w B g m u F) : PM w.drew B g m u F := h.below (Below.drew (Below.refl _ _))
theorem PM.drewN {w : World} {B g m : Nat} {u : Value} {F : Cd → List A2} (h : PM w B g m u F) (n : Nat) : PM (w.drewN n) B g m u F := h.below (bdN (Below.refl _ _) n)
theorem PM.lt {w : World} {B g m : Nat} {u : Value} {F : Cd → List A2} (h : PM w B g m u F) : g < w.heap.size := by obtain ⟨V, h1, _⟩ := h; exact h1.lt
theorem PM.step {w w8 w9 : World} {B g m : Nat} {u v1 : Value} {F : Cd → List A2} {V : Cd → Value} {c : Cd} {p : A2} (hc : c.ok = true) (h9 : MapV w9 g (m + 1) (putV V c v1)) (h2 : ∀ x : Cd, x.ok = true → OwnA2 w B (V x) (F x))
    (h3 : ∀ x y : Cd, x.ok = true → y.ok = true → same x y = false → Ap (V x) (V y)) (h4 : ∀ x : Cd, x.ok = true → Ap (V x) u) (h5 : g < B) (hu : ∀ q, u.ownBlock = some q → q < w.heap.size)
    (h1 : OwnA2 w8 B v1 (F c ++ [p])) (hG : w.grownBy w8 (V c).ownBlock) (hA : v1.ownBlock = (V c).ownBlock ∨ v1.ownBlock = some w.heap.size) (hg9 : w8.grownBy w9 (some g)) :
    PM w9 B g (m + 1) u (fun x => if same x c = true then F c ++ [p] else F x) := by
  refine ⟨_, h9, fun x hx => ?_, fun x y hx hy hxy => ?_, fun x hx => ?_, h5⟩
  · show OwnA2 w9 B (if same x c = true then v1 else V x) (if same x c = true then F c ++ [p] else F x)
    cases hs : same x c
    · simp only [Bool.false_eq_true, if_false]
      have hcx : same c x = false := by rw [Bool.eq_false_iff] at hs ⊢; intro e; exact hs (same_iff.2 (same_iff.1 e).symm)
      exact OwnA2.off (OwnA2.past (h2 x hx) hG (h3 c x hc hx hcx)) hg9 h5
    · simp only [if_true]
      exact OwnA2.off h1 hg9 h5
  · unfold putV
    have lt : ∀ z : Cd, z.ok = true → ∀ q, (V z).ownBlock = some q → q < w.heap.size := fun z hz q hq => ((h2 z hz).span q hq).2
    cases hs : same x c
    · cases ht : same y c
      · simp only [Bool.false_eq_true, if_false]; exact h3 x y hx hy hxy
      · simp only [Bool.false_eq_true, if_false, if_true]
        have hcx : same c x = false := by rw [Bool.eq_false_iff] at hs ⊢; intro e; exact hs (same_iff.2 (same_iff.1 e).symm)
        exact (Ap.next (h3 c x hc hx hcx) (lt x hx) hA).symm
    · cases ht : same y c
      · simp only [Bool.false_eq_true, if_false, if_true]
        have hcy : same c y = false := by rw [Bool.eq_false_iff] at ht ⊢; intro e; exact ht (same_iff.2 (same_iff.1 e).symm)
        exact Ap.next (h3 c y hc hy hcy) (lt y hy) hA
      · have e1 := same_iff.1 hs
        have e2 := same_iff.1 ht
        rw [e1, e2] at hxy
        rw [same_iff.2 rfl] at hxy; cases hxy
  · unfold putV
    split
    · exact Ap.next (h4 c hc) hu hA
    · exact h4 x hx
theorem PM.ext {w : World} {B g m : Nat} {u : Value} {F F' : Cd → List A2} (h : PM w B g m u F) (e : ∀ x : Cd, x.ok = true → F x = F' x) : PM w B g m u F' := by
  obtain ⟨V, h1, h2, h3, h4, h5⟩ := h
  exact ⟨V, h1, fun x hx => by rw [← e x hx]; exact h2 x hx, h3, h4, h5⟩
theorem by3_step {l : List Cd} {P : List A2} {k : Nat} {p : A2} (h : P[k]? = some p) {x : Cd} : (if same x (th l p) = true then by3 l (P.take k) (th l p) ++ [p] else by3 l (P.take k) x) = by3 l (P.take (k + 1)) x := by
  rw [take_snoc h]
  unfold by3
  rw [List.filter_append]
  cases hs : same x (th l p)
  · have hs2 : same (th l p) x = false := by rw [Bool.eq_false_iff] at hs ⊢; intro e; exact hs (same_iff.2 (same_iff.1 e).symm)
    simp [hs2]
  · have e := same_iff.1 hs
    rw [if_pos rfl, ← e]
    have : same (th l p) x = true := same_iff.2 e.symm
    simp [this]

set_option maxRecDepth 100000 in
set_option maxHeartbeats 8000000 in
theorem pairs_by (l : List Cd) (p : Option Addr) (n cp : Nat) (w : World) (hn : l.length = n) (hl : n ≤ 1000) (hr : Rd w p (flat l)) (hok : l.all Cd.ok = true) :
    Calls Try.prog 73 #[.slice p n cp] w fun e w' => ∃ g m, e = .returned (.map (some g)) ∧ PM w' (g + 1) g m nilv (by3 l (pAll n)) ∧ w.heap.size ≤ g ∧ Below w.heap.size w w' := by
  have HN := Lib.hid hn
  have HR0 := Lib.hid hr
  have HK := Lib.hid hok
  have HPP := Lib.hid (fun w => place_pairs n w hl)
  have HM0 := Lib.hid (MapV.made w)
  have HB0 : Hid (Below w.heap.size w (w.alloc (.map #[] 0))) := Lib.hid ((Below.refl _ _).alloc (Nat.le_refl _) _)
  have HPl : Hid ((pAll n).length ≤ 1000000) := Lib.hid (by have h1 := pAll_len n; have h2 : n * n ≤ 1000 * 1000 := Nat.mul_le_mul hl hl; omega)
  have HPm := Lib.hid (fun q hq => (pAll_mem (p := q) (m := n)).1 hq)
  have hmm := @run_makeMap Try.prog
  clear hn hr hok
  generalize pAll n = P at *
  go_enter Try.func73, Try.ntmps73
  go_upto_region 2 with fail
  generalize w.alloc (.map #[] 0) = W at *
  obtain ⟨g, hg⟩ : ∃ g, w.heap.size = g := ⟨_, rfl⟩
  have HGe := Lib.hid hg
  have HGz := Lib.hid HM0.out.lt
  rw [hg] at HM0 HGz
  try rw [hg]
  go_wp2_with fail
  refine (HPP.out _).mono ?_
  rintro e w3 ⟨u, rfl, hu, b⟩
  have HB := Lib.hid (chain0 HB0.out b)
  have HU := Lib.hid (OwnA2.base hu (show g + 1 ≤ W.heap.size from HGz.out))
  have HM : Hid (PM w3 (g + 1) g 0 u (by3 l (P.take 0))) := Lib.hid (PM.ext (PM.below ⟨_, HM0.out, fun x _ => ⟨rfl, .inl ⟨rfl, rfl⟩⟩, fun _ _ _ _ _ => ap_nil, fun _ _ => ap_nil, Nat.lt_succ_self g⟩ b) (fun x _ => rfl))
  obtain ⟨pu, cu, rfl, _, _, _⟩ := hu.form
  clear hu b HM0 HB0 hg
  obtain ⟨np, hnp⟩ : ∃ np, P.length = np := ⟨_, rfl⟩
  have HNp := Lib.hid hnp
  rw [hnp] at HPl HU HM ⊢
  clear hnp
  go_wp2_with fail
  go_loopw [5, 6, 12] (fun _ _ i wr => ∃ k : Nat, k ≤ np ∧ i = .int .i64 k ∧ Hid (PM wr (g + 1) g k (.slice pu np cu) (by3 l (P.take k))) ∧ Hid (OwnA2 wr (g + 1) (.slice pu np cu) P) ∧ Hid (Below w.heap.size w wr)) (fun _ _ i _ => np - (intOf i).toNat)
  case atStart => exact ⟨0, Nat.zero_le _, rfl, HM, HU, HB⟩
  case round =>
    clear HM HU HB
    obtain ⟨k, hk, rfl, HM, HU, HB⟩ := hrel
    have m0 : (0 : Int) ≤ (k : Int) := by omega
    have hmm := HPl.out
    by_cases hlt : k < np
    · have m1 : (k : Int) < (np : Int) := by omega
      obtain ⟨bu, ou, a, rfl, hbu, ha, c0, c1⟩ := HU.out.rd.aA2 (k := k) (by rw [HNp.out]; exact hlt)
      obtain ⟨i, j, hij, hjn, rfl⟩ := HPm.out a (List.mem_of_getElem? ha)
      have HSt := Lib.hid (fun x => by3_step (l := l) ha (x := x))
      have HLn := Lib.hid (show ∀ x, (by3 l (P.take k) x).length ≤ 1000000 from fun x => by
        unfold by3
        exact Nat.le_trans (List.length_filter_le _ _) (by rw [List.length_take]; omega))
      have HT := Lib.hid (fun w h => third_at l p n cp i j w HN.out h HK.out (by omega) hjn)
      have hc := th_ok l ⟨(i : Int), (j : Int)⟩
      obtain ⟨c, hce⟩ : ∃ c, th l ⟨(i : Int), (j : Int)⟩ = c := ⟨_, rfl⟩
      rw [hce] at HT hc HSt
      have HC := Lib.hid hc
      clear ha hce hc
      go_upto_region 5 with fail
      have K5 : Hid (VB (wr.alloc (A2.mk i j).obj) wr.heap.size 79 #[.int .i64 i, .int .i64 j]) := Lib.hid (VB.newAt rfl rfl)
      have b : Below wr.heap.size wr (wr.alloc (A2.mk i j).obj) := (Below.refl _ _).alloc (Nat.le_refl _) _
      clear c0 c1
      generalize wr.alloc (A2.mk i j).obj = w4 at *
      have Sw4 := Lib.hid b.size
      have HB := Lib.hid (chain0 (w := w) (by repeat (first | with_reducible exact Below.refl _ _ | with_reducible exact HB.out | with_reducible apply Below.drew | with_reducible apply bdN | with_reducible refine Below.alloc ?_ (by first | exact Nat.le_refl _ | with_reducible exact HB.out.size | omega | (simp; done) | (simp; omega) | (have := HB.out.size; simp at *; omega)) _ | with_reducible refine Below.setCell ?_ (by first | exact Nat.le_refl _ | with_reducible exact HB.out.size | omega | (simp; done) | (simp; omega) | (have := HB.out.size; simp at *; omega)) _)) b)
      have HM := Lib.hid (PM.below (by repeat (first | with_reducible exact HM.out | with_reducible apply PM.drewN | with_reducible apply PM.drew | with_reducible apply PM.alloc)) b)
      have HU := Lib.hid (OwnA2.below (by repeat (first | with_reducible exact HU.out | with_reducible apply OwnA2.drewN | with_reducible apply OwnA2.drew | with_reducible apply OwnA2.alloc)) b)
      clear b
      obtain ⟨g5, hg5⟩ : ∃ g5, wr.heap.size = g5 := ⟨_, rfl⟩
      rw [hg5] at K5
      try rw [hg5]
      clear hg5
      have d0 := VB.at_ K5.out (j := 0) rfl
      have d1 := VB.at_ K5.out (j := 1) rfl
      go_wp2_with fail
      refine ((HT.out _ (HR0.out.below HB.out))).mono ?_
      rintro e w5 ⟨rfl, b⟩
      have Sw5 := Lib.hid b.size
      have HB := Lib.hid (chain0 (w := w) (by repeat (first | with_reducible exact Below.refl _ _ | with_reducible exact HB.out | with_reducible apply Below.drew | with_reducible apply bdN | with_reducible refine Below.alloc ?_ (by first | exact Nat.le_refl _ | with_reducible exact HB.out.size | omega | (simp; done) | (simp; omega) | (have := HB.out.size; simp at *; omega)) _ | with_reducible refine Below.setCell ?_ (by first | exact Nat.le_refl _ | with_reducible exact HB.out.size | omega | (simp; done) | (simp; omega) | (have := HB.out.size; simp at *; omega)) _)) b)
      have HM := Lib.hid (PM.below (by repeat (first | with_reducible exact HM.out | with_reducible apply PM.drewN | with_reducible apply PM.drew | with_reducible apply PM.alloc)) b)
      have HU := Lib.hid (OwnA2.below (by repeat (first | with_reducible exact HU.out | with_reducible apply OwnA2.drewN | with_reducible apply OwnA2.drew | with_reducible apply OwnA2.alloc)) b)
      have K5 := Lib.hid (VB.below (by repeat (first | with_reducible exact K5.out | with_reducible apply VB.drewN | with_reducible apply VB.drew | with_reducible apply VB.alloc)) b)
      clear b
      clear d0 d1
      go_upto_region 6 with fail
      obtain ⟨w6, ew, b⟩ : ∃ wOPN : World, wOPN = (w5.alloc c.obj) ∧ Below ((w5.alloc c.obj)).heap.size ((w5.alloc c.obj)) wOPN := ⟨_, rfl, Below.refl _ _⟩
      rw [← ew]
      clear ew
      have Sw6 := Lib.hid b.size
      have HB := Lib.hid (chain0 (w := w) (by repeat (first | with_reducible exact Below.refl _ _ | with_reducible exact HB.out | with_reducible apply Below.drew | with_reducible apply bdN | with_reducible refine Below.alloc ?_ (by first | exact Nat.le_refl _ | with_reducible exact HB.out.size | omega | (simp; done) | (simp; omega) | (have := HB.out.size; simp at *; omega)) _ | with_reducible refine Below.setCell ?_ (by first | exact Nat.le_refl _ | with_reducible exact HB.out.size | omega | (simp; done) | (simp; omega) | (have := HB.out.size; simp at *; omega)) _)) b)
      have HM := Lib.hid (PM.below (by repeat (first | with_reducible exact HM.out | with_reducible apply PM.drewN | with_reducible apply PM.drew | with_reducible apply PM.alloc)) b)
      have HU := Lib.hid (OwnA2.below (by repeat (first | with_reducible exact HU.out | with_reducible apply OwnA2.drewN | with_reducible apply OwnA2.drew | with_reducible apply OwnA2.alloc)) b)
      have K5 := Lib.hid (VB.below (by repeat (first | with_reducible exact K5.out | with_reducible apply VB.drewN | with_reducible apply VB.drew | with_reducible apply VB.alloc)) b)
      have K6 : Hid (Box _ (w5.heap.size) (c)) := Lib.hid (Box.below (by repeat (first | with_reducible exact K6.out | with_reducible apply Box.drewN | with_reducible apply Box.drew | (with_reducible refine Box.newAt ?_ ?_ <;> first | (simp; done) | rfl) | with_reducible apply Box.alloc)) b)
      try clear k6a k6b k6c k6d k6z
      have k6z := K6.out.lt
      obtain ⟨k6a, k6b, k6c, k6d⟩ := K6.out.cell
      clear b
      have d0 := VB.at_ K5.out (j := 0) rfl
      have d1 := VB.at_ K5.out (j := 1) rfl
      obtain ⟨V, v1, v2, v3, v4, v5⟩ := HM.out.alloc (A2.mk i j).obj
      obtain ⟨st, w7, hrun, hg7, hs7, hst⟩ := mapV_entry v1 (by simp only [maxLen]; omega) HC.out
      have HV5 := Lib.hid v5
      have hgl : g < w6.heap.size := HM.out.lt
      have HO7 := Lib.hid (fun x hx => OwnA2.off (v2 x hx) hg7 v5)
      have HV3 := Lib.hid v3
      have HV4 := Lib.hid v4
      have hq7 : w7.heap[w6.heap.size]? = some (A2.mk i j).obj := (hg7.block w6.heap.size (by simp) (fun e => by injection e with e; omega)).trans (heap_alloc_new w6 _)
      have hz7 : w7.heap.size = w6.heap.size + 1 := by rw [hs7]; simp
      have HHs : Hid (∀ (w8 : World) (v1 : Value), w7.grownBy w8 (V c).ownBlock → ∃ w9, (Instr.entryStore 76 (.map (some g)) (goInt st) v1).run Try.prog w8 = .ok () w9 ∧ MapV w9 g (k + 1) (putV V c v1) ∧ w8.grownBy w9 (some g)) := Lib.hid (fun w8 v1 hG => hst w8 v1 (hG.block g (by omega) (fun e => by
        have h1 := ((HO7.out c HC.out).span g e.symm).1
        omega)))
      have HQ7 := Lib.hid hq7
      have HZ7 := Lib.hid hz7
      have HBz := Lib.hid HB.out.size
      have hB7 : Below w6.heap.size w6 w7 ∨ True := .inr trivial
      have HG67 : Hid ((w6.alloc (A2.mk i j).obj).grownBy w7 (some g)) := Lib.hid hg7
      have HUz := Lib.hid (OwnA2.span HU.out)
      have HU7 := Lib.hid (OwnA2.off (OwnA2.alloc HU.out (A2.mk i j).obj) hg7 v5)
      have HB7 : Hid (Below w.heap.size w w7) := Lib.hid (Below.grown (Below.alloc HB.out HB.out.size _) hg7 (by simp; have := HB.out.size; omega) (fun q hq => by injection hq with hq; have := HGe.out; omega))
      have HgB := Lib.hid (show g + 1 ≤ w7.heap.size by omega)
      clear v1 v2 v3 v4 v5 hg7 hs7 hst hq7 hz7 hgl hB7
      go_upto_region 7 with (first | ((with_reducible refine take_entry rfl _ _ rfl ?_ ?_ hrun ?_); rfl; rfl) | (at_builtin; refine append_A2_in rfl (.tmp 21) (.tmp 23) rfl (g + 1) (V c) (by3 l (P.take k) c) ⟨(i : Int), (j : Int)⟩ w7 _ HQ7.out rfl rfl (HO7.out c HC.out) (by have := HLn.out c; omega) HgB.out ?_; intro v8 w8 hO8 hB8 hG8 hA8; obtain ⟨w9, hr9, hM9, hg9⟩ := HHs.out w8 v8 hG8) | ((with_reducible refine take_entryStore rfl _ _ _ rfl ?_ ?_ ?_ hr9 ?_); rfl; rfl; rfl))
      have HM9 := Lib.hid (PM.ext (PM.step HC.out hM9 (fun x hx => HO7.out x hx) HV3.out HV4.out HV5.out (fun q hq => by have := (HUz.out q hq).2; have := HZ7.out; omega) hO8 hG8 hA8 hg9) (fun x _ => HSt.out x))
      have HU9 : Hid (OwnA2 w9 (g + 1) (.slice (some ⟨bu, ou, none⟩) np cu) P) := Lib.hid (OwnA2.off (OwnA2.past HU7.out hG8 (HV4.out c HC.out)) hg9 HV5.out)
      have HB9 : Hid (Below w.heap.size w w9) := Lib.hid (Below.grown (Below.grown HB7.out hG8 HB7.out.size (fun q hq => by have h1 := ((HO7.out c HC.out).span q hq).1; have := HGe.out; omega)) hg9 (by have h1 := HB7.out.size; have h2 := hB8.size; omega) (fun q hq => by injection hq with hq; have := HGe.out; omega))
      clear hO8 hB8 hG8 hA8 hr9 hM9 hg9 hrun
      go_wp2_with fail
      go_roundw
      case rel => exact ⟨k + 1, by omega, by go_num, HM9, HU9, HB9⟩
      case measure => simp [intOf]; omega
    · obtain rfl : k = np := by omega
      have HF : Hid (P.take k = P) := Lib.hid (by rw [← HNp.out, List.take_length])
      rw [HF.out] at HM
      obtain ⟨V, v1, v2, v3, v4, v5⟩ := HM.out
      have HR : Hid (PM wr (g + 1) g k nilv (by3 l P)) := Lib.hid ⟨V, v1, v2, v3, fun x hx => Ap.symm ap_nil, v5⟩
      clear v1 v2 v3 v4 v5
      go_wp2_with fail
      go_ret
      exact ⟨g, k, rfl, HR.out, Nat.le_of_eq HGe.out, HB.out⟩
end Go.Proofs.Ytjmlefcmhjodeaa.others

/- The card that is the third one of the most pairs: mathematics; mostPairs. -/
namespace Go.Proofs.Ytjmlefcmhjodeaa.others
open Go.RowKit
open Go.Maps (Keyed)
open cards reg
set_option linter.unusedVariables false

/-- The first of the first k cards that is the third one of the most pairs, and of how many. -/
def best (l : List Cd) : Nat → Cd × Int
  | 0 => (zero, 0)
  | k + 1 => if (best l k).2 < thr l (cdAt (k : Int)) l.length then (cdAt (k : Int), thr l (cdAt (k : Int)) l.length) else best l k
theorem best_bd (l : List Cd) : ∀ k : Nat, 0 ≤ (best l k).2 ∧ (best l k).2 ≤ l.length
  | 0 => ⟨Int.le_refl _, by simp [best]⟩
  | k + 1 => by
    have ih := best_bd l k
    have h := thr_bd l (cdAt (k : Int)) l.length
    simp only [best]
    split
    · exact h
    · exact ih
theorem best_yes {l : List Cd} {k : Nat} {t : Int} (ht : thr l (cdAt (k : Int)) l.length = t) (h : (best l k).2 < t) : best l (k + 1) = (cdAt (k : Int), t) := by
  simp only [best]
  rw [ht, if_pos h]
theorem best_no {l : List Cd} {k : Nat} {t : Int} (ht : thr l (cdAt (k : Int)) l.length = t) (h : ¬ (best l k).2 < t) : best l (k + 1) = best l k := by
  simp only [best]
  rw [ht, if_neg h]
theorem best_more {l : List Cd} : ∀ {k : Nat}, 1 < (best l k).2 ↔ ∃ j, j < k ∧ 1 < thr l (cdAt (j : Int)) l.length
  | 0 => by simp [best]
  | k + 1 => by
    have ih := best_more (l := l) (k := k)
    by_cases h : (best l k).2 < thr l (cdAt (k : Int)) l.length
    · rw [best_yes rfl h]
      constructor
      · intro h1; exact ⟨k, by omega, h1⟩
      · rintro ⟨j, hj, h1⟩
        by_cases e : j = k
        · subst e; exact h1
        · have := ih.2 ⟨j, by omega, h1⟩
          show 1 < thr l (cdAt (k : Int)) l.length
          omega
    · rw [best_no rfl h, ih]
      constructor
      · rintro ⟨j, hj, h1⟩; exact ⟨j, by omega, h1⟩
      · rintro ⟨j, hj, h1⟩
        by_cases e : j = k
        · subst e
          exact ih.1 (by omega)
        · exact ⟨j, by omega, h1⟩
theorem take_lookup {ops : Array Oper} {rest : List Oper} {o : Oper} {a : Act} {Q : Exit → Act → World → Prop} {w : World} {T : TypeId} {g : Nat} {key v : Value} (hg : o.guard = none) (m x : Operand) (hop : o.op = Op.lookup T m x false)
    (hm : a.eval m = .map (some g)) (hx : a.eval x = key) (hrun : (Instr.lookup T (.map (some g)) key false).run Try.prog w = .ok v w) (hK : wpList Try.prog ops Q rest (a.put o.dst v) w) : wpList Try.prog ops Q (o :: rest) a w := by
  refine wpList_plain hg fun K' hK' => ?_
  unfold Oper.wp
  simp [execOp, hop, hm, hx, hrun, Result.andThen]
  exact hK' _ _ hK
theorem store_c {ops : Array Oper} {rest : List Oper} {o : Oper} {a : Act} {w : World} {Q : Exit → Act → World → Prop} (hgd : o.guard = none) (x y : Operand) (ho : o.op = .store 25 x y) {g : Nat} {z : Cd} (h : Box w g z) (hx : a.eval x = .pointer (some ⟨g, 0, none⟩))
    (c : Cd) (hy : a.eval y = c.val) (hk : ∀ w', Box w' g c → w.grownBy w' (some g) → wpList Try.prog ops Q rest (a.put o.dst undef) w') : wpList Try.prog ops Q (o :: rest) a w :=
  store_vb hgd 25 x y ho (show VB w g 25 (cvx z) from h) cvx_info hx (cvx c) rfl (cvx_one c) hy hk
theorem take_c {ops : Array Oper} {rest : List Oper} {o : Oper} {a : Act} {w : World} {Q : Exit → Act → World → Prop} (hgd : o.guard = none) (x : Operand) (ho : o.op = .load 25 x) {g : Nat} {c : Cd} (h : Box w g c) (hx : a.eval x = .pointer (some ⟨g, 0, none⟩))
    (hk : wpList Try.prog ops Q rest (a.put o.dst c.val) w) : wpList Try.prog ops Q (o :: rest) a w :=
  take_vb hgd 25 x ho (show VB w g 25 (cvx c) from h) Try.underlying25 cvx_info hx hk
theorem Box.markedB {w w1 : World} {g : Nat} {x : Cd} {row : Option Nat} (h : Box w g x) (hg : w.grownBy w1 row) (h2 : row ≠ some g) : Box w1 g x := VB.marked (T := 25) (cs := cvx x) h hg h2
theorem PM.off {w w1 : World} {B g m q : Nat} {u : Value} {F : Cd → List A2} (h : PM w B g m u F) (hg : w.grownBy w1 (some q)) (hq : q < g) (hgB : g < B) : PM w1 B g m u F := by
  obtain ⟨V, h1, h2, h3, h4, h5⟩ := h
  exact ⟨V, h1.kept hg (fun e => by injection e with e; omega), fun x hx => OwnA2.off (h2 x hx) hg (by omega), h3, h4, h5⟩

set_option maxRecDepth 100000 in
set_option maxHeartbeats 8000000 in
theorem most_pairs (l : List Cd) (p : Option Addr) (n cp : Nat) (w : World) (hn : l.length = n) (hl : n ≤ 27) (hr : Rd w p (flat l)) (hok : l.all Cd.ok = true) (hs : sorted l) :
    Calls Try.prog 70 #[.slice p n cp] w fun e w' => e = .returned (.tuple #[(best l 81).1.val, .int .i64 (best l 81).2]) ∧ Below w.heap.size w w' := by
  have HN := Lib.hid hn
  have HR0 := Lib.hid hr
  have HPB := Lib.hid (fun w h => pairs_by l p n cp w hn (by omega) h hok)
  have HLn := Lib.hid (fun k (hk : k < 81) => by3_len (l := l) (c := cdAt ((k : Nat) : Int)) hs hok (cdAt_ok (by omega) (by omega)))
  have HBd := Lib.hid (best_bd l)
  have K2 : Hid (Box (w.alloc zero.obj) w.heap.size zero) := Lib.hid (Box.newAt rfl rfl)
  have HB : Hid (Below w.heap.size w (w.alloc zero.obj)) := Lib.hid ((Below.refl _ _).alloc (Nat.le_refl _) _)
  have HBe := Lib.hid (show (best l 81) = best l 81 from rfl)
  clear hn hr hok hs
  obtain ⟨R, hR⟩ : ∃ R, best l 81 = R := ⟨_, rfl⟩
  rw [hR] at HBe ⊢
  have HRe := Lib.hid hR
  clear hR HBe
  go_enter Try.func70, Try.ntmps70
  go_upto_region 1 with fail
  generalize w.alloc zero.obj = W at *
  have HWz := Lib.hid K2.out.lt
  go_wp2_with fail
  refine (HPB.out _ (HR0.out.below HB.out)).mono ?_
  rintro e w1 ⟨g, m, rfl, hPM, hgw, b⟩
  have HGw := Lib.hid (show w.heap.size < g by have := HWz.out; omega)
  have HGl := Lib.hid hPM.lt
  have Sw1 := Lib.hid b.size
  have HB := Lib.hid (chain0 (w := w) (by repeat (first | with_reducible exact Below.refl _ _ | with_reducible exact HB.out | with_reducible apply Below.drew | with_reducible apply bdN | with_reducible refine Below.alloc ?_ (by first | exact Nat.le_refl _ | with_reducible exact HB.out.size | omega | (simp; done) | (simp; omega) | (have := HB.out.size; simp at *; omega)) _ | with_reducible refine Below.setCell ?_ (by first | exact Nat.le_refl _ | with_reducible exact HB.out.size | omega | (simp; done) | (simp; omega) | (have := HB.out.size; simp at *; omega)) _)) b)
  have K2 := Lib.hid (Box.below (by repeat (first | with_reducible exact K2.out | with_reducible apply Box.drewN | with_reducible apply Box.drew | with_reducible apply Box.alloc)) b)
  clear b
  obtain ⟨V, v1, v2, v3, v4, v5⟩ := hPM
  have HPM := Lib.hid v1
  have HVf := Lib.hid (show ∀ x : Cd, x.ok = true → ∃ vp vc, V x = .slice vp (by3 l (pAll n) x).length vc from fun x hx => by
    obtain ⟨vp, vc, hv, _⟩ := (v2 x hx).form
    exact ⟨vp, vc, hv⟩)
  clear v1 v2 v3 v4 v5 hgw
  go_upto_region 3 with ((with_reducible refine store_c rfl _ _ rfl (Box.newAt (x := zero) rfl rfl) ?_ zero ?_ ?_); rfl; rfl; intro w2 hM hG)
  have b : Below w1.heap.size w1 w2 := Below.grown ((Below.refl _ _).alloc (Nat.le_refl _) _) hG (by simp) (fun k hk => by injection hk with hk; omega)
  have Sw2 := Lib.hid b.size
  have HB := Lib.hid (chain0 (w := w) (by repeat (first | with_reducible exact Below.refl _ _ | with_reducible exact HB.out | with_reducible apply Below.drew | with_reducible apply bdN | with_reducible refine Below.alloc ?_ (by first | exact Nat.le_refl _ | with_reducible exact HB.out.size | omega | (simp; done) | (simp; omega) | (have := HB.out.size; simp at *; omega)) _ | with_reducible refine Below.setCell ?_ (by first | exact Nat.le_refl _ | with_reducible exact HB.out.size | omega | (simp; done) | (simp; omega) | (have := HB.out.size; simp at *; omega)) _)) b)
  have K2 := Lib.hid (Box.below (by repeat (first | with_reducible exact K2.out | with_reducible apply Box.drewN | with_reducible apply Box.drew | with_reducible apply Box.alloc)) b)
  have HPM := Lib.hid (MapV.below (by repeat (first | with_reducible exact HPM.out | with_reducible apply MapV.drewN | with_reducible apply MapV.drew | with_reducible apply MapV.alloc)) b)
  clear b
  have K5 := Lib.hid hM
  have HGq := Lib.hid (show g < w1.heap.size from HGl.out)
  clear hM hG
  obtain ⟨q, hq⟩ : ∃ q, w1.heap.size = q := ⟨_, rfl⟩
  rw [hq] at K5 HGq
  try rw [hq]
  clear hq
  go_wp2_with fail
  go_loopw [6, 7, 8, 9, 13] (fun o _ _ _ i wr => ∃ k : Nat, k ≤ 81 ∧ i = .int .i64 k ∧ o = .int .i64 (best l k).2 ∧ Hid (Box wr q (best l k).1) ∧ Hid (Box wr w.heap.size zero) ∧ Hid (MapV wr g m V) ∧ Hid (Below w.heap.size w wr)) (fun _ _ _ _ i _ => 81 - (intOf i).toNat)
  case atStart => exact ⟨0, by omega, rfl, rfl, K5, K2, HPM, HB⟩
  case round =>
    clear K5 K2 HPM HB
    obtain ⟨k, hk, rfl, rfl, K5, K2, HPM, HB⟩ := hrel
    obtain ⟨b0, b1⟩ := HBd.out k
    have m0 : (0 : Int) ≤ (k : Int) := by omega
    by_cases hlt : k < 81
    · have m1 : (k : Int) < 81 := by omega
      have HCo := Lib.hid (cdAt_ok (n := (k : Int)) m0 (by omega))
      have HCa := Lib.hid (fun w => card_of (k : Int) w m0 (by omega))
      obtain ⟨t, ht⟩ : ∃ t, thr l (cdAt (k : Int)) l.length = t := ⟨_, rfl⟩
      have hlen := HLn.out k hlt
      rw [ht, HN.out] at hlen
      have HYes := Lib.hid (best_yes (k := k) ht)
      have HNo := Lib.hid (best_no (k := k) ht)
      have hnn := HN.out
      obtain ⟨c, hc⟩ : ∃ c, cdAt (k : Int) = c := ⟨_, rfl⟩
      rw [hc] at HCo HCa hlen HYes
      clear ht hc
      generalize best l k = bb at *
      obtain ⟨bc, bt⟩ := bb
      dsimp only at b0 b1 K5 HYes HNo ⊢
      go_wp2_with fail
      refine (HCa.out _).mono ?_
      rintro e w4 ⟨rfl, b⟩
      have Sw4 := Lib.hid b.size
      have HB := Lib.hid (chain0 (w := w) (by repeat (first | with_reducible exact Below.refl _ _ | with_reducible exact HB.out | with_reducible apply Below.drew | with_reducible apply bdN | with_reducible refine Below.alloc ?_ (by first | exact Nat.le_refl _ | with_reducible exact HB.out.size | omega | (simp; done) | (simp; omega) | (have := HB.out.size; simp at *; omega)) _ | with_reducible refine Below.setCell ?_ (by first | exact Nat.le_refl _ | with_reducible exact HB.out.size | omega | (simp; done) | (simp; omega) | (have := HB.out.size; simp at *; omega)) _)) b)
      have K5 := Lib.hid (Box.below (by repeat (first | with_reducible exact K5.out | with_reducible apply Box.drewN | with_reducible apply Box.drew | with_reducible apply Box.alloc)) b)
      have K2 := Lib.hid (Box.below (by repeat (first | with_reducible exact K2.out | with_reducible apply Box.drewN | with_reducible apply Box.drew | with_reducible apply Box.alloc)) b)
      have HPM := Lib.hid (MapV.below (by repeat (first | with_reducible exact HPM.out | with_reducible apply MapV.drewN | with_reducible apply MapV.drew | with_reducible apply MapV.alloc)) b)
      clear b
      go_upto_region 7 with fail
      obtain ⟨w5, ew, b⟩ : ∃ wOPN : World, wOPN = (w4.alloc c.obj) ∧ Below ((w4.alloc c.obj)).heap.size ((w4.alloc c.obj)) wOPN := ⟨_, rfl, Below.refl _ _⟩
      rw [← ew]
      clear ew
      have Sw5 := Lib.hid b.size
      have HB := Lib.hid (chain0 (w := w) (by repeat (first | with_reducible exact Below.refl _ _ | with_reducible exact HB.out | with_reducible apply Below.drew | with_reducible apply bdN | with_reducible refine Below.alloc ?_ (by first | exact Nat.le_refl _ | with_reducible exact HB.out.size | omega | (simp; done) | (simp; omega) | (have := HB.out.size; simp at *; omega)) _ | with_reducible refine Below.setCell ?_ (by first | exact Nat.le_refl _ | with_reducible exact HB.out.size | omega | (simp; done) | (simp; omega) | (have := HB.out.size; simp at *; omega)) _)) b)
      have K5 := Lib.hid (Box.below (by repeat (first | with_reducible exact K5.out | with_reducible apply Box.drewN | with_reducible apply Box.drew | with_reducible apply Box.alloc)) b)
      have K2 := Lib.hid (Box.below (by repeat (first | with_reducible exact K2.out | with_reducible apply Box.drewN | with_reducible apply Box.drew | with_reducible apply Box.alloc)) b)
      have HPM := Lib.hid (MapV.below (by repeat (first | with_reducible exact HPM.out | with_reducible apply MapV.drewN | with_reducible apply MapV.drew | with_reducible apply MapV.alloc)) b)
      have K8 : Hid (Box _ (w4.heap.size) (c)) := Lib.hid (Box.below (by repeat (first | with_reducible exact K8.out | with_reducible apply Box.drewN | with_reducible apply Box.drew | (with_reducible refine Box.newAt ?_ ?_ <;> first | (simp; done) | rfl) | with_reducible apply Box.alloc)) b)
      try clear k8a k8b k8c k8d k8z
      have k8z := K8.out.lt
      obtain ⟨k8a, k8b, k8c, k8d⟩ := K8.out.cell
      clear b
      obtain ⟨vp, vc, hv⟩ := HVf.out c HCo.out
      have hrun := mapV_look HPM.out HCo.out
      rw [hv] at hrun
      rw [← hlen] at HYes HNo
      have hll : (by3 l (pAll n) c).length ≤ 1000000 := by
        have h1 := pAll_len n
        have h2 : n * n ≤ 27 * 27 := Nat.mul_le_mul (by omega) (by omega)
        exact Nat.le_trans (List.length_filter_le _ _) (by omega)
      clear hv hlen
      generalize (by3 l (pAll n) c).length = L at *
      go_upto_region 8 with ((with_reducible refine take_lookup rfl _ _ rfl ?_ ?_ hrun ?_); rfl; rfl)
      clear hrun
      by_cases hcmp : bt < (L : Int)
      · have HF := Lib.hid (HYes.out hcmp)
        go_upto_region 10 with (first | ((with_reducible refine take_c rfl _ rfl K8.out ?_ ?_); rfl) | ((with_reducible refine store_c rfl _ _ rfl K5.out ?_ c ?_ ?_); rfl; rfl; intro w6 hM hG))
        have b : Below w.heap.size w5 w6 := (Below.refl _ _).grown hG (by have := HB.out.size; omega) (fun k hk => by injection hk with hk; have := HGw.out; have := HGq.out; omega)
        have HB6 := Lib.hid (HB.out.trans b)
        have K26 := Lib.hid (Box.markedB K2.out hG (fun e => by injection e with e; have := HGw.out; have := HGq.out; omega))
        have HM6 := Lib.hid (MapV.kept HPM.out hG (fun e => by injection e with e; have := HGq.out; omega))
        have K56 : Hid (Box w6 q (best l (k + 1)).1) := Lib.hid (by rw [HF.out]; exact hM)
        clear hM hG b
        go_wp2_with fail
        go_roundw
        case rel => exact ⟨k + 1, by omega, by go_num, by rw [HF.out], K56, K26, HM6, HB6⟩
        case measure => simp [intOf]; omega
      · have HF := Lib.hid (HNo.out (by omega))
        go_wp2_with fail
        go_roundw
        case rel => exact ⟨k + 1, by omega, by go_num, by rw [HF.out], by rw [HF.out]; exact K5, K2, HPM, HB⟩
        case measure => simp [intOf]; omega
    · obtain rfl : k = 81 := by omega
      rw [HRe.out] at K5 ⊢
      go_wp2_with (first | ((with_reducible refine take_c rfl _ rfl K5.out ?_ ?_); rfl) | ((with_reducible refine store_c rfl _ _ rfl K2.out ?_ R.1 ?_ ?_); rfl; rfl; intro w7 hM hG))
      try simp only [Exit.inBlock, Exit.then]
      refine bodyPost_ret (res_vb2 Try.results70 rfl (show VB w7 w.heap.size 25 (cvx R.1) from hM) Try.underlying25 cvx_info) rfl ?_
      exact ⟨rfl, HB.out.grown hG HB.out.size (fun k hk => by injection hk with hk; omega)⟩
end Go.Proofs.Ytjmlefcmhjodeaa.others

/- QuadsIn: ranging over the map of pairs. -/
namespace Go.Proofs.Ytjmlefcmhjodeaa.others
open Go.RowKit
open Go.Maps (Keyed)
open cards reg
set_option linter.unusedVariables false

theorem take_next {ops : Array Oper} {rest : List Oper} {o : Oper} {a : Act} {Q : Exit → Act → World → Prop} {w w1 : World} {v p : Value} (hg : o.guard = none) (it : Operand) (hop : o.op = Op.next it false)
    (hm : a.eval it = p) (hrun : (Instr.next p false o.type).run Try.prog w = .ok v w1) (hK : wpList Try.prog ops Q rest (a.put o.dst v) w1) : wpList Try.prog ops Q (o :: rest) a w := by
  refine wpList_plain hg fun K' hK' => ?_
  unfold Oper.wp
  simp [execOp, hop, hm, hrun, Result.andThen]
  exact hK' _ _ hK
theorem take_entryOp {ops : Array Oper} {rest : List Oper} {o : Oper} {a : Act} {Q : Exit → Act → World → Prop} {w w1 : World} {v p : Value} (hg : o.guard = none) (it : Operand) (hop : o.op = Op.entry it)
    (hm : a.eval it = p) (hrun : (Instr.entry p).run Try.prog w = .ok v w1) (hK : wpList Try.prog ops Q rest (a.put o.dst v) w1) : wpList Try.prog ops Q (o :: rest) a w := by
  refine wpList_plain hg fun K' hK' => ?_
  unfold Oper.wp
  simp [execOp, hop, hm, hrun, Result.andThen]
  exact hK' _ _ hK
theorem take_range {ops : Array Oper} {rest : List Oper} {o : Oper} {a : Act} {Q : Exit → Act → World → Prop} {w w1 : World} {T : TypeId} {v p : Value} (hg : o.guard = none) (it : Operand) (hop : o.op = Op.range T it)
    (hm : a.eval it = p) (hrun : (Instr.range T p).run Try.prog w = .ok v w1) (hK : wpList Try.prog ops Q rest (a.put o.dst v) w1) : wpList Try.prog ops Q (o :: rest) a w := by
  refine wpList_plain hg fun K' hK' => ?_
  unfold Oper.wp
  simp [execOp, hop, hm, hrun, Result.andThen]
  exact hK' _ _ hK
/-- The map is ranged over by block r, its rows stand, and O's row lies apart from all of it. -/
def QI (w : World) (g r m : Nat) (D : DataW Value) (V : Cd → Value) (F : Cd → List A2) (left : Lit → Bool) (cnt : Nat) (O : Value) : Prop :=
  w.ranges Try.prog 25 Rv g r m D left cnt ∧ (∀ x : Cd, x.ok = true → OwnA2 w (g + 1) (V x) (F x)) ∧ (∀ x : Cd, x.ok = true → Ap O (V x)) ∧ (∀ q, O.ownBlock = some q → q ≠ g ∧ q ≠ r) ∧ O ≠ nilv
section
variable {w w1 : World} {g r m : Nat} {D : DataW Value} {V : Cd → Value} {F : Cd → List A2} {left : Lit → Bool} {cnt : Nat} {O : Value}
theorem QI.below (h : QI w g r m D V F left cnt O) (b : Below w.heap.size w w1) : QI w1 g r m D V F left cnt O := by
  obtain ⟨h1, h2, h3⟩ := h
  exact ⟨h1.kept (row := none) ⟨b.os, b.tape, b.output, b.size, fun j hj _ => b.block j hj⟩ (by simp) (by simp), fun x hx => (h2 x hx).below b, h3⟩
theorem QI.alloc (h : QI w g r m D V F left cnt O) (o : Obj) : QI (w.alloc o) g r m D V F left cnt O := h.below ((Below.refl _ _).alloc (Nat.le_refl _) o)
theorem QI.drew (h : QI w g r m D V F left cnt O) : QI w.drew g r m D V F left cnt O := h.below (Below.drew (Below.refl _ _))
theorem QI.drewN (h : QI w g r m D V F left cnt O) (n : Nat) : QI (w.drewN n) g r m D V F left cnt O := h.below (bdN (Below.refl _ _) n)
theorem QI.append {O' : Value} {N : Nat} (h : QI w g r m D V F left cnt O) (hG : w.grownBy w1 O.ownBlock) (hA : O'.ownBlock = O.ownBlock ∨ O'.ownBlock = some N) (hN : w.heap.size ≤ N) (hn : O' ≠ nilv) : QI w1 g r m D V F left cnt O' := by
  obtain ⟨h1, h2, h3, h4, h5⟩ := h
  have hg := h1.owns.lt
  have hr := h1.lt
  refine ⟨h1.kept hG (fun e => (h4 g e.symm).1 rfl) (fun e => (h4 r e.symm).2 rfl), fun x hx => OwnA2.past (h2 x hx) hG (h3 x hx), fun x hx => Ap.next (h3 x hx) (fun q hq => Nat.lt_of_lt_of_le ((h2 x hx).span q hq).2 hN) hA, fun q hq => ?_, hn⟩
  rcases hA with e | e
  · exact h4 q (e.symm.trans hq)
  · rw [e] at hq; injection hq with hq; omega
set_option maxRecDepth 100000 in
/-- One entry comes out of the range. -/
theorem QI.next (h : QI w g r m D V F left cnt O) (hD : ∀ x : Cd, x.ok = true → D.atKey (kl x) (.held nilv) = .held (V x)) (hk : ∀ k, Maps.has D k = true → ∃ x : Cd, x.ok = true ∧ k = kl x) (hr : ∀ x : Cd, x.ok = true → ∀ q, (V x).ownBlock = some q → q ≠ r) (ty : TypeId) :
    ((∀ k, left k = false) ∧ (Instr.next (.pointer (some ⟨r, 0, none⟩)) false ty).run Try.prog w = .ok (.tuple #[.bool false]) w) ∨
    ∃ (c : Cd) (key : Value) (w' : World) (cnt' : Nat), c.ok = true ∧ left (kl c) = true ∧ (Instr.next (.pointer (some ⟨r, 0, none⟩)) false ty).run Try.prog w = .ok (.tuple #[.bool true, key, V c]) w' ∧ (Instr.entry (.pointer (some ⟨r, 0, none⟩))).run Try.prog w' = .ok (.tuple #[key, V c]) w' ∧
      QI w' g r m D V F (fun x => left x && !x.sameKey (kl c)) cnt' O ∧ cnt' < cnt ∧ w.grownBy w' (some r) ∧ w'.heap.size = w.heap.size := by
  obtain ⟨h1, h2, h3, h4, h5⟩ := h
  rcases h1.next mlaw ty with ⟨_, hl, hrun⟩ | ⟨key, v, k, y, w', cnt', hkey, hlk, hv, hat, hrun, hrg, hlt, hgr, hsz, hen⟩
  · exact .inl ⟨hl, hrun⟩
  · obtain ⟨c, hc, rfl⟩ := hk k (Maps.has_true_of_atKey hat)
    have hvc : v = V c := by
      have := hD c hc
      rw [hat] at this
      unfold Rv at hv
      injection hv with hv
      rw [← hv] at this
      injection this
    subst hvc
    exact .inr ⟨c, key, w', cnt', hc, hlk, hrun, hen, ⟨hrg, fun x hx => World.ownsRow.kept (h2 x hx) hgr (by
      cases hq : (V x).ownBlock with
      | none => exact .inl rfl
      | some q => exact .inr (fun e => hr x hx q hq (by injection e))), h3, h4, h5⟩, hlt, hgr, hsz⟩
end
/-- The cards whose entries have come out of the range. -/
structure Seen (D : DataW Value) (left : Lit → Bool) (S : List Cd) : Prop where
  nodup : S.Pairwise (· ≠ ·)
  ok : ∀ c, c ∈ S → c.ok = true
  out : ∀ c : Cd, c.ok = true → left (kl c) = true → c ∉ S
  all : ∀ c : Cd, c.ok = true → Maps.has D (kl c) = true → left (kl c) = false → c ∈ S
theorem Seen.start (D : DataW Value) : Seen D (Maps.has D) [] where
  nodup := .nil
  ok c h := by simp at h
  out c _ _ := by simp
  all c _ h1 h2 := by rw [h1] at h2; cases h2
theorem Seen.step {D : DataW Value} {left : Lit → Bool} {S : List Cd} (h : Seen D left S) {c : Cd} (hc : c.ok = true) (hl : left (kl c) = true) : Seen D (fun x => left x && !x.sameKey (kl c)) (S ++ [c]) where
  nodup := by
    rw [List.pairwise_append]
    refine ⟨h.nodup, by simp, fun x hx y hy e => ?_⟩
    obtain rfl : y = c := by simpa using hy
    subst e
    exact h.out x hc hl hx
  ok x hx := by
    rcases List.mem_append.1 hx with hx | hx
    · exact h.ok x hx
    · obtain rfl : x = c := by simpa using hx
      exact hc
  out x hx hlx hm := by
    rw [Bool.and_eq_true] at hlx
    rcases List.mem_append.1 hm with hm | hm
    · exact h.out x hx hlx.1 hm
    · obtain rfl : x = c := by simpa using hm
      have := hlx.2
      rw [WideAt.sameKey_self (kl_key hc)] at this
      cases this
  all x hx hd hlx := by
    by_cases e : x = c
    · subst e; simp
    · have hne : kl x ≠ kl c := fun e2 => e (kl_inj hx hc e2)
      rw [Maps.sameKey_ne hne] at hlx
      simp at hlx
      exact List.mem_append.2 (.inl (h.all x hx hd hlx))
theorem Seen.whole {D : DataW Value} {left : Lit → Bool} {S : List Cd} (h : Seen D left S) (hl : ∀ k, left k = false) {V : Cd → Value} {F : Cd → List A2} {w : World} {B : Nat} (hD : ∀ x : Cd, x.ok = true → D.atKey (kl x) (.held nilv) = .held (V x)) (h2 : ∀ x : Cd, x.ok = true → OwnA2 w B (V x) (F x)) {c : Cd} (hc : c.ok = true) (hF : F c ≠ []) : c ∈ S := by
  apply h.all c hc _ (hl _)
  cases hh : Maps.has D (kl c)
  · exfalso
    have e := hD c hc
    rw [Maps.atKey_of_not_has hh] at e
    injection e with e
    have ho := h2 c hc
    rw [← e] at ho
    apply hF
    obtain ⟨_, ⟨_, h0⟩ | ⟨g, cap, cur, hv, _⟩⟩ := ho
    · exact List.length_eq_zero_iff.1 h0
    · cases hv
  · rfl
theorem own_some {w : World} {B : Nat} {v : Value} {l : List Cd} {q : Cd} (h : Own w B v (l ++ [q])) : v ≠ nilv := fun e => by
  subst e
  obtain ⟨_, ⟨_, h0⟩ | ⟨g, cap, cur, hv, _⟩⟩ := h
  · simp at h0
  · cases hv
noncomputable def quadR (l : List Cd) : List Cd × Bool := if handB l = true ∧ l.length ≤ 12 then (allQ l l.length, true) else ([], false)
theorem quadR_no {l : List Cd} (h : handB l = false ∨ 12 < l.length) : quadR l = ([], false) := by
  unfold quadR
  rw [if_neg]
  rintro ⟨h1, h2⟩
  rcases h with h | h
  · rw [h] at h1; cases h1
  · omega
theorem qrow_len (L : List A2) (p : A2) : ∀ j : Nat, (qrow L p j).length ≤ j
  | 0 => by simp [qrow]
  | j + 1 => by
    have := qrow_len L p j
    simp only [qrow, List.length_append]
    split <;> simp <;> omega
theorem qcs_len (L : List A2) : ∀ i : Nat, (qcs L i).length ≤ i * i
  | 0 => by simp [qcs]
  | i + 1 => by
    have := qcs_len L i
    simp only [qcs, List.length_append, Nat.succ_mul, Nat.mul_succ]
    split
    · have := qrow_len L ‹A2› i; omega
    · simp; omega
end Go.Proofs.Ytjmlefcmhjodeaa.others

/- QuadsIn: the program. -/
namespace Go.Proofs.Ytjmlefcmhjodeaa.others
open Go.RowKit
open Go.Maps (Keyed)
open cards reg
set_option linter.unusedVariables false

theorem put_len' {l : List Cd} {c : Cd} (h : there l c = false) : (put l c).length = l.length + 1 := by
  unfold put
  rw [if_neg (by simp [h])]
  have := less_le l c
  simp; omega
theorem Own.keptN {w w1 : World} {B : Nat} {v : Value} {l : List Cd} {row : Option Nat} (h : Own w B v l) (hg : w.grownBy w1 row) (hr : ∀ q, v.ownBlock = some q → row ≠ some q) : Own w1 B v l :=
  World.ownsRow.kept h hg (by
    cases hv : v.ownBlock with
    | none => exact .inl rfl
    | some q => exact .inr (fun e => hr q hv e.symm))
theorem Rd.at2 {w : World} {b o : Nat} {l : List A2} (h : Rd w (some ⟨b, o, none⟩) (A2.flat l)) {k : Nat} {x : A2} (hx : l[k]? = some x) : w.cell? ⟨b, o + k * 2, none⟩ = some (.int .i64 x.a) ∧ w.cell? ⟨b, o + k * 2 + 1, none⟩ = some (.int .i64 x.b) := by
  obtain ⟨b', o', x', e, _, hx', h0, h1⟩ := h.aA2 (List.getElem?_eq_some_iff.1 hx).1
  injection e with e
  injection e with e1 e2
  subst e1; subst e2
  rw [hx] at hx'; injection hx' with hx'; subst hx'
  exact ⟨h0, h1⟩
theorem own_form {w : World} {B : Nat} {v : Value} {l : List Cd} (h : Own w B v l) (hn : v ≠ nilv) : ∃ g c, v = .slice (some ⟨g, 0, none⟩) l.length c := by
  obtain ⟨_, ⟨e, _⟩ | ⟨g, cap, cur, hv, _⟩⟩ := h
  · exact absurd e hn
  · exact ⟨g, cap, hv⟩
theorem fold_len : ∀ (l m : List Cd), l.Pairwise (· ≠ ·) → l.all Cd.ok = true → sorted m → m.all Cd.ok = true → (∀ x, x ∈ l → x ∉ m) → (l.foldl put m).length = m.length + l.length
  | [], m, _, _, _, _, _ => rfl
  | c :: r, m, hp, hk, hs, hm, hd => by
    obtain ⟨h1, h2⟩ := List.pairwise_cons.1 hp
    simp only [List.all_cons, Bool.and_eq_true] at hk
    have hc : there m c = false := by
      rw [Bool.eq_false_iff]; intro e
      exact hd c (.head _) ((there_mem hs hm hk.1).1 e)
    rw [List.foldl_cons, fold_len r (put m c) h2 hk.2 (put_sorted hs hm hk.1) (put_ok hs hm hk.1) (fun x hx hm2 => ?_), put_len' hc]
    · simp; omega
    · rcases (put_mem hs hm hk.1).1 hm2 with e | e
      · exact h1 x hx e.symm
      · exact hd x (.tail _ hx) e
theorem few_cards {S : List Cd} (hp : S.Pairwise (· ≠ ·)) (hk : ∀ c, c ∈ S → c.ok = true) : S.length ≤ 81 := by
  have h := List.all_eq_true.2 hk
  have e := fold_len S [] hp h List.Pairwise.nil rfl (fun _ _ => by simp)
  have := allPut_is h
  have h81 := sorted_81 this.1 this.2.1
  unfold allPut at h81
  simp at e
  omega
theorem flat_bd {f : Cd → List Cd} {k : Nat} (hf : ∀ c, (f c).length ≤ k) : ∀ S : List Cd, (S.flatMap f).length ≤ S.length * k
  | [] => by simp
  | c :: r => by
    have := flat_bd hf r
    have := hf c
    rw [List.flatMap_cons, List.length_append, List.length_cons, Nat.succ_mul]
    omega

set_option maxRecDepth 100000 in
set_option maxHeartbeats 8000000 in
theorem impl_quads (l : List Cd) (p : Option Addr) (n cp : Nat) (w : World) (hn : l.length = n) (hl : n ≤ 1000000000) (hr : Rd w p (flat l)) :
    Calls Try.prog 42 #[.slice p n cp] w fun e w' => ∃ u, e = .returned (.tuple #[u, .bool (quadR l).2]) ∧ Own w' w.heap.size u (quadR l).1 ∧ Below w.heap.size w w' := by
  have HN := Lib.hid hn
  have HR0 := Lib.hid hr
  clear hn hr
  by_cases h12 : 12 < n
  · have HT := Lib.hid (quadR_no (l := l) (.inr (by rw [HN.out]; exact h12)))
    have m12 : (12 : Int) < (n : Int) := by omega
    go_enter Try.func42, Try.ntmps42
    go_wp2_with fail
    go_ret2
    exact ⟨_, ret_two (by rw [HT.out]), by rw [HT.out]; exact Own.empty _ _ (Nat.le_refl _), by repeat (first | with_reducible exact Below.refl _ _ | with_reducible exact HB.out | with_reducible apply Below.drew | with_reducible apply bdN | with_reducible refine Below.alloc ?_ (by first | exact Nat.le_refl _ | with_reducible exact HB.out.size | omega | (simp; done) | (simp; omega) | (have := HB.out.size; simp at *; omega)) _ | with_reducible refine Below.setCell ?_ (by first | exact Nat.le_refl _ | with_reducible exact HB.out.size | omega | (simp; done) | (simp; omega) | (have := HB.out.size; simp at *; omega)) _)⟩
  · have m12 : ¬ (12 : Int) < (n : Int) := by omega
    have HIs := Lib.hid (fun w h => is_hand l p n cp w HN.out hl h)
    cases hh : handB l
    · have HT := Lib.hid (quadR_no (l := l) (.inl hh))
      rw [hh] at HIs
      clear hh
      go_enter Try.func42, Try.ntmps42
      go_wp2_with fail
      refine (HIs.out _ HR0.out).mono ?_
      rintro e w1 ⟨rfl, b⟩
      have HB := Lib.hid b
      clear b
      go_wp2_with fail
      go_ret2
      exact ⟨_, ret_two (by rw [HT.out]), by rw [HT.out]; exact Own.empty _ _ HB.out.size, by repeat (first | with_reducible exact Below.refl _ _ | with_reducible exact HB.out | with_reducible apply Below.drew | with_reducible apply bdN | with_reducible refine Below.alloc ?_ (by first | exact Nat.le_refl _ | with_reducible exact HB.out.size | omega | (simp; done) | (simp; omega) | (have := HB.out.size; simp at *; omega)) _ | with_reducible refine Below.setCell ?_ (by first | exact Nat.le_refl _ | with_reducible exact HB.out.size | omega | (simp; done) | (simp; omega) | (have := HB.out.size; simp at *; omega)) _)⟩
    · have HH := Lib.hid (handB_true.1 hh)
      have HT := Lib.hid (show quadR l = (allQ l l.length, true) by unfold quadR; rw [if_pos ⟨hh, by rw [HN.out]; omega⟩])
      rw [hh] at HIs
      have HPB := Lib.hid (fun w h => pairs_by l p n cp w HN.out (by omega) h HH.out.2.1)
      have HPs := Lib.hid (fun c => by3_pairs (l := l) (c := c) HH.out.2.2 HH.out.2.1)
      have HQS := Lib.hid (fun S Q a b c d => quads_sorted (l := l) HH.out.2.2 HH.out.2.1 (S := S) (Q := Q) a b c d)
      have HQc := Lib.hid (fun c => show Qc l c = qcs (by3 l (pAll n) c) (by3 l (pAll n) c).length by unfold Qc; rw [HN.out])
      have HFl := Lib.hid (fun c => show (by3 l (pAll n) c).length ≤ 144 from by
        have h1 := pAll_len n
        have h2 : n * n ≤ 12 * 12 := Nat.mul_le_mul (by omega) (by omega)
        exact Nat.le_trans (List.length_filter_le _ _) (by omega))
      rw [HN.out] at HPs HQS
      clear hh
      rw [HT.out]
      dsimp only
      rw [HN.out]
      generalize by3 l (pAll n) = F at *
      generalize allQ l n = AQ at *
      generalize Qc l = QC at *
      go_enter Try.func42, Try.ntmps42
      go_wp2_with fail
      refine (HIs.out _ HR0.out).mono ?_
      rintro e w1 ⟨rfl, b⟩
      have HB := Lib.hid b
      clear b
      have O0 := Lib.hid (Own.empty w1 w.heap.size HB.out.size)
      have HB := Lib.hid (HB.out.alloc HB.out.size (.cells #[] 25))
      go_upto_region 4 with fail
      generalize hW : w1.alloc (.cells #[] 25) = W at *
      obtain ⟨g0, hg0⟩ : ∃ g0, w1.heap.size = g0 := ⟨_, rfl⟩
      rw [hg0] at O0
      try rw [hg0]
      have HGz := Lib.hid (show g0 < W.heap.size by rw [← hW, ← hg0]; simp)
      clear hW hg0
      go_wp2_with fail
      refine (HPB.out _ (HR0.out.below HB.out)).mono ?_
      rintro e w2 ⟨g, m, rfl, hPM, hgw, b⟩
      obtain ⟨V, v1, v2, v3, v4, v5⟩ := hPM
      have Sw2 := Lib.hid b.size
      have HB := Lib.hid (chain0 (w := w) (by repeat (first | with_reducible exact Below.refl _ _ | with_reducible exact HB.out | with_reducible apply Below.drew | with_reducible apply bdN | with_reducible refine Below.alloc ?_ (by first | exact Nat.le_refl _ | with_reducible exact HB.out.size | omega | (simp; done) | (simp; omega) | (have := HB.out.size; simp at *; omega)) _ | with_reducible refine Below.setCell ?_ (by first | exact Nat.le_refl _ | with_reducible exact HB.out.size | omega | (simp; done) | (simp; omega) | (have := HB.out.size; simp at *; omega)) _)) b)
      have O0 := Lib.hid (Own.below (by repeat (first | with_reducible exact O0.out | with_reducible apply Own.drewN | with_reducible apply Own.drew | with_reducible apply Own.alloc)) b)
      clear b
      obtain ⟨D, d1, d2, d3⟩ := v1
      obtain ⟨w3, hrun, r1, r2, r3⟩ := d1.range mlaw Try.underlying76
      have HD := Lib.hid d2
      have HDk := Lib.hid d3
      obtain ⟨r, hr⟩ : ∃ r, w2.heap.size = r := ⟨_, rfl⟩
      have HVr := Lib.hid (show ∀ x : Cd, x.ok = true → ∀ q, (V x).ownBlock = some q → q ≠ r from fun x hx q hq => by have := ((v2 x hx).span q hq).2; omega)
      have b : Below w2.heap.size w2 w3 := ⟨r2.os, r2.tape, r2.output, r2.size, fun j hj => r2.block j hj (by simp)⟩
      have HBz := Lib.hid HB.out.size
      have HGl := Lib.hid (show g0 < g from by have := HGz.out; omega)
      have HQ : Hid (QI w3 g r m D V F (Maps.has D) (Maps.size D) (.slice (some ⟨g0, 0, none⟩) 0 0)) := Lib.hid ⟨by rw [hr] at r1; exact r1, fun x hx => (v2 x hx).below b, fun x hx q h1 h2 => by
        have h3 : g0 = q := by simpa [Value.ownBlock] using h1
        have := ((v2 x hx).span q h2).1
        have := HGl.out
        omega, fun q h1 => by
        have h3 : g0 = q := by simpa [Value.ownBlock] using h1
        have := HGl.out
        have := d1.lt
        omega, by simp⟩
      have HRw := Lib.hid (show w.heap.size ≤ r by have := HBz.out; omega)
      have Sw3 := Lib.hid b.size
      have HB := Lib.hid (chain0 (w := w) (by repeat (first | with_reducible exact Below.refl _ _ | with_reducible exact HB.out | with_reducible apply Below.drew | with_reducible apply bdN | with_reducible refine Below.alloc ?_ (by first | exact Nat.le_refl _ | with_reducible exact HB.out.size | omega | (simp; done) | (simp; omega) | (have := HB.out.size; simp at *; omega)) _ | with_reducible refine Below.setCell ?_ (by first | exact Nat.le_refl _ | with_reducible exact HB.out.size | omega | (simp; done) | (simp; omega) | (have := HB.out.size; simp at *; omega)) _)) b)
      have O0 := Lib.hid (Own.below (by repeat (first | with_reducible exact O0.out | with_reducible apply Own.drewN | with_reducible apply Own.drew | with_reducible apply Own.alloc)) b)
      clear b
      rw [hr] at hrun
      try rw [hr]
      have HSe := Lib.hid (Seen.start D)
      have O0 : Hid (Own w3 w.heap.size (.slice (some ⟨g0, 0, none⟩) 0 0) (([] : List Cd).flatMap QC)) := Lib.hid O0.out
      have HLk : Hid (∀ k, Maps.has D k = true → Maps.has D k = true) := Lib.hid (fun k h => h)
      clear d1 d2 d3 r1 r2 r3 v2 v3 v4 v5 hgw hr
      go_wp2_with ((with_reducible refine take_range rfl _ rfl ?_ hrun ?_); rfl)
      simp only [Act.put, List.setIfInBounds_toArray, List.set_cons_zero, List.set_cons_succ]
      clear hrun
      go_loopw [4, 6, 7, 8, 10, 11] (fun O _ _ _ _ _ wr => ∃ (S : List Cd) (left : Lit → Bool) (cnt : Nat), Hid (QI wr g r m D V F left cnt O) ∧ Hid (Seen D left S) ∧ Hid (Own wr w.heap.size O (S.flatMap QC)) ∧ Hid (Below w.heap.size w wr)) (fun _ _ _ _ _ _ wr => wr.rangeLeft g r)
      case atStart => exact ⟨[], _, _, HQ, HSe, O0, HB⟩
      case round =>
        clear HQ HSe O0 HB HLk
        obtain ⟨S, left, cnt, HQ, HSe, HO, HB⟩ := hrel
        have HSl := Lib.hid (show (S.flatMap QC).length ≤ 2000000 from by
          have h1 := few_cards HSe.out.nodup HSe.out.ok
          have h2 := flat_bd (f := QC) (k := 144 * 144) (fun c => by rw [HQc.out c]; exact Nat.le_trans (qcs_len _ _) (Nat.mul_le_mul (HFl.out c) (HFl.out c))) S
          have h3 : S.length * (144 * 144) ≤ 81 * (144 * 144) := Nat.mul_le_mul_right _ h1
          omega)
        rcases HQ.out.next HD.out HDk.out HVr.out 0 with ⟨hleft, hrun⟩ | ⟨c, key, wn, cnt', hc, hlk, hrun, hen, hQn, hlt, hgr, hsz⟩
        · have HAll := Lib.hid (fun c hc hF => HSe.out.whole hleft HD.out HQ.out.2.1 (c := c) hc hF)
          obtain ⟨gO, cO, hO⟩ := own_form HO.out HQ.out.2.2.2.2
          subst hO
          have HSz := Lib.hid HO.out.span
          obtain ⟨nO, hnO⟩ : ∃ nO, (S.flatMap QC).length = nO := ⟨_, rfl⟩
          have HNo := Lib.hid hnO
          rw [hnO] at HO HSl ⊢
          clear hnO hleft
          go_wp2_with ((with_reducible refine take_next rfl _ rfl ?_ hrun ?_); rfl)
          refine (sort_quads (S.flatMap QC) gO nO cO w.heap.size _ HNo.out (by have := HSl.out; omega) HO.out).mono ?_
          rintro e w5 ⟨rfl, Q', hp, hl', hsr, ho, hG⟩
          have HE := Lib.hid (HQS.out S Q' HSe.out.nodup HAll.out hp hsr)
          have HO5 := Lib.hid ho
          have HB5 := Lib.hid (Below.grown HB.out hG HB.out.size (fun q hq => by injection hq with hq; have := (HO.out.span gO rfl).1; omega))
          clear hp hl' hsr ho hG hrun
          go_wp2_with fail
          go_ret2
          exact ⟨_, rfl, by rw [← HE.out]; exact HO5.out, HB5.out⟩
        · have HOn := Lib.hid (Own.keptN HO.out hgr (fun q hq e => (HQ.out.2.2.2.1 q hq).2 (by injection e with e; exact e.symm)))
          have HBn := Lib.hid (Below.grown HB.out hgr HB.out.size (fun q hq => by injection hq with hq; have := HRw.out; omega))
          have HQn := Lib.hid hQn
          have HSn := Lib.hid (HSe.out.step hc hlk)
          have HCo := Lib.hid hc
          obtain ⟨pv, cv, hv, hcv, _, _⟩ := (hQn.2.1 c hc).form
          have HVc := Lib.hid (fun (w : World) (h : OwnA2 w (g + 1) (V c) (F c)) => by rw [hv] at h; exact h)
          have HFe : Hid ((S ++ [c]).flatMap QC = S.flatMap QC ++ qcs (F c) (F c).length) := Lib.hid (by rw [List.flatMap_append, List.flatMap_singleton, HQc.out c])
          have HLt := Lib.hid (show cnt' < wr.rangeLeft g r by rw [HQ.out.1.left_eq]; exact hlt)
          have HPc := Lib.hid (HPs.out c)
          have HLe := Lib.hid (HFl.out c)
          rw [hv] at hrun hen
          obtain ⟨nL, hnL⟩ : ∃ nL, (F c).length = nL := ⟨_, rfl⟩
          have HNl := Lib.hid hnL
          rw [hnL] at hrun hen hcv HVc HFe HLe
          clear hgr hsz hQn hlk hc hv hlt hnL HQ HO HB HSe
          generalize S.flatMap QC = base at *
          go_wp2_with (first | ((with_reducible refine take_next rfl _ rfl ?_ hrun ?_); rfl) | ((with_reducible refine take_entryOp rfl _ rfl ?_ hen ?_); rfl))
          clear hrun hen
          go_loopw [4, 7, 8, 10, 11, 31] (fun O _ _ _ _ i wr => ∃ k : Nat, k ≤ nL ∧ i = .int .i64 k ∧ Hid (QI wr g r m D V F (fun x => left x && !x.sameKey (kl c)) cnt' O) ∧ Hid (Own wr w.heap.size O (base ++ qcs (F c) k)) ∧ Hid (Below w.heap.size w wr)) (fun _ _ _ _ _ i _ => nL - (intOf i).toNat)
          case atStart => exact ⟨0, Nat.zero_le _, rfl, HQn, by rw [show qcs (F c) 0 = [] from rfl, List.append_nil]; exact HOn, HBn⟩
          case round =>
            clear HQn HOn HBn
            obtain ⟨k, hk, rfl, HQ, HO, HB⟩ := hrel
            have k0 : (0 : Int) ≤ (k : Int) := by omega
            have hle := HLe.out
            by_cases hkt : k < nL
            · have k1 : (k : Int) < (nL : Int) := by omega
              have HOV := HVc.out _ (HQ.out.2.1 c HCo.out)
              obtain ⟨bu, ou, pp, rfl, hbu, hpp, c0, c1⟩ := HOV.rd.aA2 (k := k) (by rw [HNl.out]; exact hkt)
              have HPp := Lib.hid hpp
              clear hpp HOV
              go_upto_region 10 with fail
              have HA8 := Lib.hid (fun q hq => Nat.ne_of_lt (Own.span HO.out q hq).2)
              have K8 : Hid (VB (wr.alloc pp.obj) wr.heap.size 79 #[.int .i64 pp.a, .int .i64 pp.b]) := Lib.hid (VB.newAt rfl rfl)
              have b : Below wr.heap.size wr (wr.alloc pp.obj) := (Below.refl _ _).alloc (Nat.le_refl _) _
              clear c0 c1
              generalize wr.alloc pp.obj = w4 at *
              have Sw4 := Lib.hid b.size
              have HB := Lib.hid (chain0 (w := w) (by repeat (first | with_reducible exact Below.refl _ _ | with_reducible exact HB.out | with_reducible apply Below.drew | with_reducible apply bdN | with_reducible refine Below.alloc ?_ (by first | exact Nat.le_refl _ | with_reducible exact HB.out.size | omega | (simp; done) | (simp; omega) | (have := HB.out.size; simp at *; omega)) _ | with_reducible refine Below.setCell ?_ (by first | exact Nat.le_refl _ | with_reducible exact HB.out.size | omega | (simp; done) | (simp; omega) | (have := HB.out.size; simp at *; omega)) _)) b)
              have HQ := Lib.hid (QI.below (by repeat (first | with_reducible exact HQ.out | with_reducible apply QI.drewN | with_reducible apply QI.drew | with_reducible apply QI.alloc)) b)
              have HO := Lib.hid (Own.below (by repeat (first | with_reducible exact HO.out | with_reducible apply Own.drewN | with_reducible apply Own.drew | with_reducible apply Own.alloc)) b)
              clear b
              obtain ⟨g8, hg8⟩ : ∃ g8, wr.heap.size = g8 := ⟨_, rfl⟩
              rw [hg8] at K8 HA8
              try rw [hg8]
              clear hg8
              have c1' : (k : Int) ≤ (cv : Int) := by omega
              go_wp2_with fail
              go_loopw [4, 10, 11, 40] (fun O _ _ i wr => ∃ t : Nat, t ≤ k ∧ i = .int .i64 t ∧ Hid (QI wr g r m D V F (fun x => left x && !x.sameKey (kl c)) cnt' O) ∧ Hid (Own wr w.heap.size O (base ++ qcs (F c) k ++ qrow (F c) pp t)) ∧ Hid (VB wr g8 79 #[.int .i64 pp.a, .int .i64 pp.b]) ∧ Hid (∀ q, O.ownBlock = some q → q ≠ g8) ∧ Hid (Below w.heap.size w wr)) (fun _ _ _ i _ => k - (intOf i).toNat)
              case atStart => exact ⟨0, Nat.zero_le _, rfl, HQ, by rw [show qrow (F c) pp 0 = [] from rfl, List.append_nil]; exact HO, K8, HA8, HB⟩
              case round =>
                clear HQ HO K8 HB HA8
                obtain ⟨t, ht, rfl, HQ, HO, K8, HA8, HB⟩ := hrel
                have t0 : (0 : Int) ≤ (t : Int) := by omega
                by_cases htt : t < k
                · have t1 : (t : Int) < (k : Int) := by omega
                  have HOV := HVc.out _ (HQ.out.2.1 c HCo.out)
                  obtain ⟨qq, hqq⟩ : ∃ qq, (F c)[t]? = some qq := ⟨_, List.getElem?_eq_getElem (by rw [HNl.out]; omega)⟩
                  obtain ⟨d0, d1⟩ := Rd.at2 HOV.rd hqq
                  have HLat := HPc.out.later htt HPp.out hqq
                  have HAsc := Lib.hid (q4_asc (HPc.out.asc _ (List.mem_of_getElem? HPp.out)) (HPc.out.asc _ (List.mem_of_getElem? hqq)) HLat.2.1)
                  have HQs := Lib.hid (qrow_step (p := pp) hqq)
                  have HLn := Lib.hid (show (base ++ qcs (F c) k ++ qrow (F c) pp t).length ≤ 1000000000 by
                    have h1 := qcs_len (F c) k
                    have h2 : k * k ≤ 144 * 144 := Nat.mul_le_mul (by omega) (by omega)
                    have h3 := qrow_len (F c) pp t
                    have h4 := HSl.out
                    simp only [List.length_append]; omega)
                  clear hqq HOV HLat
                  go_upto_region 13 with fail
                  have K10 : Hid (VB (wr.alloc qq.obj) wr.heap.size 79 #[.int .i64 qq.a, .int .i64 qq.b]) := Lib.hid (VB.newAt rfl rfl)
                  have b : Below wr.heap.size wr (wr.alloc qq.obj) := (Below.refl _ _).alloc (Nat.le_refl _) _
                  clear d0 d1
                  generalize wr.alloc qq.obj = w5 at *
                  have Sw5 := Lib.hid b.size
                  have HB := Lib.hid (chain0 (w := w) (by repeat (first | with_reducible exact Below.refl _ _ | with_reducible exact HB.out | with_reducible apply Below.drew | with_reducible apply bdN | with_reducible refine Below.alloc ?_ (by first | exact Nat.le_refl _ | with_reducible exact HB.out.size | omega | (simp; done) | (simp; omega) | (have := HB.out.size; simp at *; omega)) _ | with_reducible refine Below.setCell ?_ (by first | exact Nat.le_refl _ | with_reducible exact HB.out.size | omega | (simp; done) | (simp; omega) | (have := HB.out.size; simp at *; omega)) _)) b)
                  have HQ := Lib.hid (QI.below (by repeat (first | with_reducible exact HQ.out | with_reducible apply QI.drewN | with_reducible apply QI.drew | with_reducible apply QI.alloc)) b)
                  have HO := Lib.hid (Own.below (by repeat (first | with_reducible exact HO.out | with_reducible apply Own.drewN | with_reducible apply Own.drew | with_reducible apply Own.alloc)) b)
                  have K8 := Lib.hid (VB.below (by repeat (first | with_reducible exact K8.out | with_reducible apply VB.drewN | with_reducible apply VB.drew | with_reducible apply VB.alloc)) b)
                  clear b
                  obtain ⟨g10, hg10⟩ : ∃ g10, wr.heap.size = g10 := ⟨_, rfl⟩
                  rw [hg10] at K10
                  try rw [hg10]
                  clear hg10
                  have e0 := VB.at_ K8.out (j := 0) rfl
                  have e1 := VB.at_ K8.out (j := 1) rfl
                  have e2 := VB.at_ K10.out (j := 0) rfl
                  have e3 := VB.at_ K10.out (j := 1) rfl
                  go_upto_region 14 with fail
                  clear e0 e1 e2 e3 K10
                  go_wp2_with fail
                  refine (sort_box ⟨pp.a, pp.b, qq.a, qq.b⟩ (q4 pp qq) w5.heap.size _ (Box.newAt rfl rfl) (q4_perm pp qq) HAsc.out).mono ?_
                  rintro e w6 ⟨rfl, hbx, hG⟩
                  have b : Below w5.heap.size w5 w6 := Below.grown ((Below.refl _ _).alloc (Nat.le_refl _) _) hG (by simp) (fun k hk => by injection hk with hk; omega)
                  have Sw6 := Lib.hid b.size
                  have HB := Lib.hid (chain0 (w := w) (by repeat (first | with_reducible exact Below.refl _ _ | with_reducible exact HB.out | with_reducible apply Below.drew | with_reducible apply bdN | with_reducible refine Below.alloc ?_ (by first | exact Nat.le_refl _ | with_reducible exact HB.out.size | omega | (simp; done) | (simp; omega) | (have := HB.out.size; simp at *; omega)) _ | with_reducible refine Below.setCell ?_ (by first | exact Nat.le_refl _ | with_reducible exact HB.out.size | omega | (simp; done) | (simp; omega) | (have := HB.out.size; simp at *; omega)) _)) b)
                  have HQ := Lib.hid (QI.below (by repeat (first | with_reducible exact HQ.out | with_reducible apply QI.drewN | with_reducible apply QI.drew | with_reducible apply QI.alloc)) b)
                  have HO := Lib.hid (Own.below (by repeat (first | with_reducible exact HO.out | with_reducible apply Own.drewN | with_reducible apply Own.drew | with_reducible apply Own.alloc)) b)
                  have K8 := Lib.hid (VB.below (by repeat (first | with_reducible exact K8.out | with_reducible apply VB.drewN | with_reducible apply VB.drew | with_reducible apply VB.alloc)) b)
                  clear b
                  clear hG
                  obtain ⟨x0, x1, x2, x3⟩ := hbx.cell
                  go_wp2_with (at_builtin; refine append_cd_at rfl (.tmp 55) (.tmp 57) rfl w.heap.size _ (base ++ qcs (F c) k ++ qrow (F c) pp t) (q4 pp qq) _ _ rfl rfl rfl HO.out HLn.out HB.out.size ?_; intro v7 w7 hO7 hB7 hG7 hA7)
                  have hQ7 := QI.append HQ.out hG7 hA7 (Nat.le_succ _) (own_some hO7)
                  rw [List.append_assoc, ← HQs.out] at hO7
                  have hK7 : VB w7 g8 79 #[.int .i64 pp.a, .int .i64 pp.b] := VB.marked K8.out hG7 (fun e => HA8.out g8 e rfl)
                  have hA8 := fun q (hq : v7.ownBlock = some q) => show q ≠ g8 from by
                    rcases hA7 with e | e
                    · exact HA8.out q (e.symm.trans hq)
                    · rw [e] at hq; injection hq with hq; have := K8.out.lt; omega
                  go_roundw
                  case rel => exact ⟨t + 1, by omega, by go_num, hQ7, hO7, hK7, hA8, HB.out.trans hB7⟩
                  case measure => simp [intOf]; omega
                · obtain rfl : t = k := by omega
                  have HQk := Lib.hid (qcs_step HPp.out)
                  go_wp2_with fail
                  go_roundw
                  case rel => exact ⟨t + 1, by omega, by go_num, HQ, by rw [HQk.out, ← List.append_assoc]; exact HO, HB⟩
                  case measure => simp [intOf]; omega
            · obtain rfl : k = nL := by omega
              go_wp2_with fail
              go_roundw
              case rel => exact ⟨S ++ [c], _, _, HQ, HSn, by rw [HFe.out]; exact HO, HB⟩
              case measure => rw [HQ.out.1.left_eq]; exact HLt.out
end Go.Proofs.Ytjmlefcmhjodeaa.others

/- A region that draws its order, with TWO new blocks among its operations: one walk serves all its orders. What stores stand at its end, one behind the other. -/
namespace Go.Proofs.Ytjmlefcmhjodeaa.cards
open Go.RowKit
open reg
set_option linter.unusedVariables false

section
variable {P : Program} {md : Region.Mode} {ops : Array Oper} {Q : Exit → Act → World → Prop}

def putO (a : Act) (d : Tmp) : Option Nat → Act
  | none => a
  | some g => a.put (some d) (ptr g)
/-- The activation, whichever of the two blocks are made. -/
def putT (a : Act) (d0 d1 : Tmp) (m0 m1 : Option Nat) : Act := putO (putO a d0 m0) d1 m1
theorem putO_put {a : Act} {d : Tmp} {m : Option Nat} {y : Option Tmp} {v : Value} (h : y ≠ some d) : (putO a d m).put y v = putO (a.put y v) d m := by
  cases m with
  | none => rfl
  | some g => exact Act.put_comm a (x := some d) (y := y) (ptr g) v (fun e he => by cases he; exact h)
theorem putT_put {a : Act} {d0 d1 : Tmp} {m0 m1 : Option Nat} {y : Option Tmp} {v : Value} (h0 : y ≠ some d0) (h1 : y ≠ some d1) : (putT a d0 d1 m0 m1).put y v = putT (a.put y v) d0 d1 m0 m1 := by
  unfold putT
  rw [putO_put h1, putO_put h0]
theorem exec_putO {o : Oper} (hs : ∀ cs b, o.op ≠ .select cs b) {a : Act} {d : Tmp} {m : Option Nat} (h : d ∉ o.looksAt ops) : execOp (putO a d m).eval o = execOp a.eval o := by
  cases m with
  | none => rfl
  | some g => exact execOp_put (ops := ops) o hs a (some d) (ptr g) (fun e he => by cases he; exact h)
theorem exec_putT {o : Oper} (hs : ∀ cs b, o.op ≠ .select cs b) {a : Act} {d0 d1 : Tmp} {m0 m1 : Option Nat} (h0 : d0 ∉ o.looksAt ops) (h1 : d1 ∉ o.looksAt ops) : execOp (putT a d0 d1 m0 m1).eval o = execOp a.eval o := by
  unfold putT
  rw [exec_putO hs h1, exec_putO hs h0]
theorem wanted_putO (o : Oper) {a : Act} {d : Tmp} {m : Option Nat} (h : d ∉ o.looksAt ops) : Region.wanted o (yielded ops (putO a d m).tmps) = Region.wanted o (yielded ops a.tmps) := by
  cases m with
  | none => rfl
  | some g => exact wanted_put o a (some d) (ptr g) (fun e he => by cases he; exact h)
theorem wanted_putT (o : Oper) {a : Act} {d0 d1 : Tmp} {m0 m1 : Option Nat} (h0 : d0 ∉ o.looksAt ops) (h1 : d1 ∉ o.looksAt ops) : Region.wanted o (yielded ops (putT a d0 d1 m0 m1).tmps) = Region.wanted o (yielded ops a.tmps) := by
  unfold putT
  rw [wanted_putO o h1, wanted_putO o h0]
/-- An operation that looks at neither slot and sets neither. -/
def farAt (ops : Array Oper) (d0 d1 : Tmp) (i : Nat) : Bool := match ops[i]? with
  | some o => !(o.looksAt ops).contains d0 && !(o.looksAt ops).contains d1 && o.dst != some d0 && o.dst != some d1
  | none => false
theorem farAt_spec {d0 d1 : Tmp} {i : Nat} {o : Oper} (h : farAt ops d0 d1 i = true) (ho : ops[i]? = some o) : d0 ∉ o.looksAt ops ∧ d1 ∉ o.looksAt ops ∧ o.dst ≠ some d0 ∧ o.dst ≠ some d1 := by
  unfold farAt at h
  rw [ho] at h
  simp only [Bool.and_eq_true, Bool.not_eq_true', bne_iff_ne] at h
  obtain ⟨⟨⟨h1, h2⟩, h3⟩, h4⟩ := h
  exact ⟨(fun hm => by rw [List.contains_iff_mem.2 hm] at h1; cases h1), (fun hm => by rw [List.contains_iff_mem.2 hm] at h2; cases h2), h3, h4⟩
def seqS (md : Region.Mode) (ops : Array Oper) : List Nat → Array Bool → Bool
  | [], l => Region.ready md ops l == []
  | j :: r, l => (Region.ready md ops l == [j]) && seqS md ops r (l.setIfInBounds j true)
/-- What comes at the end, one behind the other. -/
def runsS (P : Program) (ops : Array Oper) (S : World → Prop) (K : Act → World → Prop) : List Nat → Act → World → Prop
  | [], a, w => K a w
  | j :: r, a, w => ∃ o w' v, ops[j]? = some o ∧ o.guard = none ∧ ((execOp a.eval o).run P w = .ok (.value v) w' ∨ ((execOp a.eval o).run P w = .ok .skip w' ∧ v = undef)) ∧ S w' ∧ runsS P ops S K r (a.put o.dst v) w'
theorem seq_of {S : World → Prop} : ∀ (st : List Nat) (l : Array Bool) (a : Act) (w : World), seqS md ops st l = true → S w → runsS P ops S (Q .normal) st a w → wpAnyH P md ops Q S st.length l a w
  | [], l, a, w, hok, hS, h => wpAnyH_done (by simpa [seqS] using hok) h 0
  | j :: r, l, a, w, hok, hS, h => by
    simp only [seqS, Bool.and_eq_true, beq_iff_eq] at hok
    obtain ⟨o, w', v, ho, hg, hrun, hS', hr⟩ := h
    refine wpAnyH_all hok.1 (by simp) fun i hi => ?_
    obtain rfl : i = j := by simpa using hi
    unfold wpOp
    simp only [ho, wanted_of hg, if_true]
    refine .inl ?_
    unfold Oper.wp
    rcases hrun with hrun | ⟨hrun, rfl⟩
    · rw [hrun]; exact ⟨hS', seq_of r _ _ _ hok.2 hS' hr⟩
    · rw [hrun]; exact ⟨hS', seq_of r _ _ _ hok.2 hS' hr⟩
def okT (md : Region.Mode) (ops : Array Oper) (i0 i1 : Nat) (d0 d1 : Tmp) (st : List Nat) : Nat → Bool → Bool → List (Bool × Nat) → Array Bool → Bool
  | 0, p0, p1, [], l => !p0 && !p1 && seqS md ops st l
  | 0, _, _, _ :: _, _ => false
  | n + 1, p0, p1, [], l => (Region.ready md ops l != []) && (Region.ready md ops l).all (fun j => (p0 && j == i0) || (p1 && j == i1)) && (!p0 || okT md ops i0 i1 d0 d1 st n false p1 [] (l.setIfInBounds i0 true)) && (!p1 || okT md ops i0 i1 d0 d1 st n p0 false [] (l.setIfInBounds i1 true))
  | n + 1, p0, p1, (true, i) :: r, l => Region.free md ops l i && (Region.ready md ops l).contains i && farAt ops d0 d1 i && okT md ops i0 i1 d0 d1 st n p0 p1 r (l.setIfInBounds i true)
  | n + 1, p0, p1, (false, i) :: r, l => (Region.ready md ops l != []) && (Region.ready md ops l).all (fun j => (j == i) || ((p0 && j == i0) || (p1 && j == i1))) && farAt ops d0 d1 i && okT md ops i0 i1 d0 d1 st n p0 p1 r (l.setIfInBounds i true) && (!p0 || okT md ops i0 i1 d0 d1 st n false p1 ((false, i) :: r) (l.setIfInBounds i0 true)) && (!p1 || okT md ops i0 i1 d0 d1 st n p0 false ((false, i) :: r) (l.setIfInBounds i1 true))
/-- The blocks that are made. -/
def madeO (n0 : Nat) (obj : Obj) (w : World) : Option Nat → Prop
  | none => True
  | some g => n0 ≤ g ∧ w.heap[g]? = some obj
theorem madeO_below {n0 : Nat} {obj : Obj} {w w1 : World} {m : Option Nat} (h : madeO n0 obj w m) (b : Below w.heap.size w w1) : madeO n0 obj w1 m := by
  cases m with
  | none => trivial
  | some g => exact ⟨h.1, (b.block g (Array.getElem?_eq_some_iff.1 h.2).1).trans h.2⟩
def apartO : Option Nat → Option Nat → Prop
  | some g, some k => g ≠ k
  | _, _ => True
/-- What is known holds also with each of the new blocks. -/
structure Clo2 (n0 : Nat) (ob0 ob1 : Obj) (S I : World → Prop) : Prop where
  held : ∀ w, I w → S w
  big : ∀ w, I w → n0 ≤ w.heap.size
  grow0 : ∀ w, I w → I (w.alloc ob0)
  grow1 : ∀ w, I w → I (w.alloc ob1)
def chainT (P : Program) (ops : Array Oper) (S : World → Prop) (n0 : Nat) (ob0 ob1 : Obj) (fin : Act → (World → Prop) → Prop) : List (Bool × Nat) → Act → (World → Prop) → Prop
  | [], a, I => fin a I
  | (true, i) :: r, a, I => ∃ o v, ops[i]? = some o ∧ YieldsIf P ops S o v a ∧ chainT P ops S n0 ob0 ob1 fin r (a.put o.dst v) I
  | (false, i) :: r, a, I => ∃ o, ops[i]? = some o ∧ o.guard = none ∧ ∀ w, I w → Upon P (fun v w' => Below w.heap.size w w' ∧ ∃ I', Clo2 n0 ob0 ob1 S I' ∧ I' w' ∧ chainT P ops S n0 ob0 ob1 fin r (a.put o.dst v) I') ((execOp a.eval o).run P w)

/-- The end: both blocks are made, the stores are to come. -/
def finT (P : Program) (ops : Array Oper) (S : World → Prop) (Q : Exit → Act → World → Prop) (n0 : Nat) (ob0 ob1 : Obj) (st : List Nat) (d0 d1 : Tmp) (b : Act) (I : World → Prop) : Prop :=
  ∀ w g0 g1, I w → n0 ≤ g0 → n0 ≤ g1 → g0 ≠ g1 → w.heap[g0]? = some ob0 → w.heap[g1]? = some ob1 → runsS P ops S (Q .normal) st ((b.put (some d0) (ptr g0)).put (some d1) (ptr g1)) w
variable {S : World → Prop} {n0 : Nat} {ob0 ob1 : Obj} {o0 o1 : Oper} {i0 i1 : Nat} {d0 d1 : Tmp} {st : List Nat}

theorem two_of (hsel : Region.noSelect ops = true) (hQ : ∀ c (d : Option Tmp) v a w, Q (.panic c) (a.put d v) w → Q (.panic c) a w) (hdd : d0 ≠ d1)
    (h0 : ops[i0]? = some o0) (hd0 : o0.dst = some d0) (hg0 : o0.guard = none) (hal0 : ∀ (a : Act) (w : World), (execOp a.eval o0).run P w = .ok (.value (ptr w.heap.size)) (w.alloc ob0))
    (h1 : ops[i1]? = some o1) (hd1 : o1.dst = some d1) (hg1 : o1.guard = none) (hal1 : ∀ (a : Act) (w : World), (execOp a.eval o1).run P w = .ok (.value (ptr w.heap.size)) (w.alloc ob1)) :
    ∀ (n : Nat) (r : List (Bool × Nat)) (m0 m1 : Option Nat) (l : Array Bool) (a : Act) (I : World → Prop) (w : World),
      okT md ops i0 i1 d0 d1 st n m0.isNone m1.isNone r l = true → Clo2 n0 ob0 ob1 S I → I w → madeO n0 ob0 w m0 → madeO n0 ob1 w m1 → apartO m0 m1 →
      chainT P ops S n0 ob0 ob1 (finT P ops S Q n0 ob0 ob1 st d0 d1) r a I →
      wpAnyH P md ops Q S (n + st.length) l (putT a d0 d1 m0 m1) w := by
  have step0 : ∀ (n : Nat) (r : List (Bool × Nat)) (m1 : Option Nat) (l : Array Bool) (a : Act) (I : World → Prop) (w : World), Clo2 n0 ob0 ob1 S I → I w → madeO n0 ob1 w m1 →
      (∀ w' m0, I w' → madeO n0 ob0 w' (some m0) → madeO n0 ob1 w' m1 → apartO (some m0) m1 → wpAnyH P md ops Q S (n + st.length) (l.setIfInBounds i0 true) (putT a d0 d1 (some m0) m1) w') →
      wpOp P ops Q i0 (fun a' w' => S w' ∧ wpAnyH P md ops Q S (n + st.length) (l.setIfInBounds i0 true) a' w') (putT a d0 d1 none m1) w := by
    intro n r m1 l a I w hc hI hm1 hk
    refine wpOp_upon (R := fun v w' => v = ptr w.heap.size ∧ w' = w.alloc ob0) h0 hg0 (by rw [hal0]; exact ⟨rfl, rfl⟩) ?_
    rintro v w' ⟨rfl, rfl⟩
    have hb : Below w.heap.size w (w.alloc ob0) := (Below.refl _ _).alloc (Nat.le_refl _) _
    have e : (putT a d0 d1 none m1).put o0.dst (ptr w.heap.size) = putT a d0 d1 (some w.heap.size) m1 := by
      rw [hd0]
      unfold putT
      rw [putO_put (by intro e; injection e with e; exact hdd e)]
      rfl
    rw [e]
    refine ⟨hc.held _ (hc.grow0 _ hI), hk _ _ (hc.grow0 _ hI) ⟨hc.big _ hI, heap_alloc_new _ _⟩ (madeO_below hm1 hb) ?_⟩
    cases m1 with
    | none => trivial
    | some g => exact fun e => by have := (Array.getElem?_eq_some_iff.1 hm1.2).1; omega
  have step1 : ∀ (n : Nat) (r : List (Bool × Nat)) (m0 : Option Nat) (l : Array Bool) (a : Act) (I : World → Prop) (w : World), Clo2 n0 ob0 ob1 S I → I w → madeO n0 ob0 w m0 →
      (∀ w' m1, I w' → madeO n0 ob0 w' m0 → madeO n0 ob1 w' (some m1) → apartO m0 (some m1) → wpAnyH P md ops Q S (n + st.length) (l.setIfInBounds i1 true) (putT a d0 d1 m0 (some m1)) w') →
      wpOp P ops Q i1 (fun a' w' => S w' ∧ wpAnyH P md ops Q S (n + st.length) (l.setIfInBounds i1 true) a' w') (putT a d0 d1 m0 none) w := by
    intro n r m0 l a I w hc hI hm0 hk
    refine wpOp_upon (R := fun v w' => v = ptr w.heap.size ∧ w' = w.alloc ob1) h1 hg1 (by rw [hal1]; exact ⟨rfl, rfl⟩) ?_
    rintro v w' ⟨rfl, rfl⟩
    have hb : Below w.heap.size w (w.alloc ob1) := (Below.refl _ _).alloc (Nat.le_refl _) _
    have e : (putT a d0 d1 m0 none).put o1.dst (ptr w.heap.size) = putT a d0 d1 m0 (some w.heap.size) := by
      rw [hd1]; rfl
    rw [e]
    refine ⟨hc.held _ (hc.grow1 _ hI), hk _ _ (hc.grow1 _ hI) (madeO_below hm0 hb) ⟨hc.big _ hI, heap_alloc_new _ _⟩ ?_⟩
    cases m0 with
    | none => trivial
    | some g => exact fun e => by have := (Array.getElem?_eq_some_iff.1 hm0.2).1; omega
  intro n
  induction n with
  | zero =>
    intro r m0 m1 l a I w hok hc hI hm0 hm1 hap h
    cases r with
    | cons x r => simp [okT] at hok
    | nil =>
      cases m0 with
      | none => simp [okT] at hok
      | some g0 =>
        cases m1 with
        | none => simp [okT] at hok
        | some g1 =>
          simp only [okT, Option.isNone_some, Bool.not_false, Bool.true_and] at hok
          rw [Nat.zero_add]
          exact seq_of st l _ w hok (hc.held _ hI) (h w g0 g1 hI hm0.1 hm1.1 hap hm0.2 hm1.2)
  | succ n ih =>
    intro r m0 m1 l a I w hok hc hI hm0 hm1 hap h
    rw [show n + 1 + st.length = (n + st.length) + 1 by omega]
    cases r with
    | nil =>
      simp only [okT, Bool.and_eq_true, bne_iff_ne, List.all_eq_true] at hok
      obtain ⟨⟨⟨k1, k2⟩, k3⟩, k4⟩ := hok
      refine wpAnyH_all rfl k1 fun j hj => ?_
      have hj := k2 j hj
      simp only [Bool.or_eq_true, Bool.and_eq_true, beq_iff_eq] at hj
      rcases hj with ⟨hp, rfl⟩ | ⟨hp, rfl⟩
      · cases m0 with
        | some g => simp at hp
        | none =>
          simp only [Option.isNone_none, Bool.not_true, Bool.false_or] at k3
          exact step0 n [] m1 l a I w hc hI hm1 (fun w' g hI' a1 a2 a3 => ih [] (some g) m1 _ a I w' (by simpa using k3) hc hI' a1 a2 a3 h)
      · cases m1 with
        | some g => simp at hp
        | none =>
          simp only [Option.isNone_none, Bool.not_true, Bool.false_or] at k4
          exact step1 n [] m0 l a I w hc hI hm0 (fun w' g hI' a1 a2 a3 => ih [] m0 (some g) _ a I w' (by simpa using k4) hc hI' a1 a2 a3 h)
    | cons x r =>
      obtain ⟨b, i⟩ := x
      cases b with
      | true =>
        simp only [okT, Bool.and_eq_true] at hok
        obtain ⟨⟨⟨k1, k2⟩, k3⟩, k4⟩ := hok
        obtain ⟨o, v, ho, hy, hr⟩ := h
        obtain ⟨f0, f1, f2, f3⟩ := farAt_spec k3 ho
        refine wpAnyH_take (v := v) ho hsel k1 k2 (fun c a w => hQ c _ _ a w) (hy.of_same (exec_putT (Region.noSelect_spec hsel i o · · ho) f0 f1) (wanted_putT o f0 f1)) (hc.held _ hI) ?_
        rw [putT_put f2 f3]
        exact ih r m0 m1 _ _ I w k4 hc hI hm0 hm1 hap hr
      | false =>
        simp only [okT, Bool.and_eq_true, bne_iff_ne, List.all_eq_true] at hok
        obtain ⟨⟨⟨⟨⟨k1, k2⟩, k3⟩, k4⟩, k5⟩, k6⟩ := hok
        have h' := h
        obtain ⟨o, ho, hgd, hr⟩ := h
        obtain ⟨f0, f1, f2, f3⟩ := farAt_spec k3 ho
        refine wpAnyH_all rfl k1 fun j hj => ?_
        have hj := k2 j hj
        simp only [Bool.or_eq_true, Bool.and_eq_true, beq_iff_eq] at hj
        rcases hj with rfl | ⟨hp, rfl⟩ | ⟨hp, rfl⟩
        · refine wpOp_upon (R := fun v w' => Below w.heap.size w w' ∧ ∃ I', Clo2 n0 ob0 ob1 S I' ∧ I' w' ∧ chainT P ops S n0 ob0 ob1 (finT P ops S Q n0 ob0 ob1 st d0 d1) r (a.put o.dst v) I') ho hgd (by rw [exec_putT (Region.noSelect_spec hsel _ o · · ho) f0 f1]; exact hr w hI) fun v w' ⟨hbw, I', hc', hI', hr'⟩ => ?_
          refine ⟨hc'.held _ hI', ?_⟩
          rw [putT_put f2 f3]
          exact ih r m0 m1 _ _ I' w' k4 hc' hI' (madeO_below hm0 hbw) (madeO_below hm1 hbw) hap hr'
        · cases m0 with
          | some g => simp at hp
          | none =>
            simp only [Option.isNone_none, Bool.not_true, Bool.false_or] at k5
            exact step0 n ((false, i) :: r) m1 l a I w hc hI hm1 (fun w' g hI' a1 a2 a3 => ih ((false, i) :: r) (some g) m1 _ a I w' (by simpa using k5) hc hI' a1 a2 a3 h')
        · cases m1 with
          | some g => simp at hp
          | none =>
            simp only [Option.isNone_none, Bool.not_true, Bool.false_or] at k6
            exact step1 n ((false, i) :: r) m0 l a I w hc hI hm0 (fun w' g hI' a1 a2 a3 => ih ((false, i) :: r) m0 (some g) _ a I w' (by simpa using k6) hc hI' a1 a2 a3 h')
/-- THE LAW of a region with two new blocks. -/
theorem region_two {id : Nat} {a : Act} {w : World} (r : List (Bool × Nat)) (i0 i1 d0 d1 : Nat) (st : List Nat) (o0 o1 : Oper) (ob0 ob1 : Obj) (n0 : Nat) (S I : World → Prop)
    (hm : P.follows .mixedOrders = true) (hok : okT .any ops i0 i1 d0 d1 st (r.length + 2) true true r (Array.replicate ops.size false) = true) (hlen : ops.size = r.length + 2 + st.length) (hsel : Region.noSelect ops = true) (hdd : d0 ≠ d1)
    (h0 : ops[i0]? = some o0) (hd0 : o0.dst = some d0) (hg0 : o0.guard = none) (hal0 : ∀ (a : Act) (w : World), (execOp a.eval o0).run P w = .ok (.value (ptr w.heap.size)) (w.alloc ob0))
    (h1 : ops[i1]? = some o1) (hd1 : o1.dst = some d1) (hg1 : o1.guard = none) (hal1 : ∀ (a : Act) (w : World), (execOp a.eval o1).run P w = .ok (.value (ptr w.heap.size)) (w.alloc ob1))
    (hc : Clo2 n0 ob0 ob1 S I) (hI : I w.drew)
    (h : chainT P ops S n0 ob0 ob1 (finT P ops S Q n0 ob0 ob1 st d0 d1) r a I) :
    (Code.region id ops true).wp P Q a w := by
  refine wp_region_noPanic (wp_region_held hm (S := S) ?_)
  have k := two_of (md := .any) (Q := NoPanic Q) (st := st) (i0 := i0) (i1 := i1) hsel (fun _ _ _ _ _ h => h) hdd h0 hd0 hg0 hal0 h1 hd1 hg1 hal1 (r.length + 2) r none none _ a I _ hok hc hI trivial trivial trivial ?_
  · rw [← hlen] at k; exact k
  · have mono : ∀ (st : List Nat) (a : Act) (w : World), runsS P ops S (Q .normal) st a w → runsS P ops S (NoPanic Q .normal) st a w := by
      intro st
      induction st with
      | nil => intro a w h; exact NoPanic.normal h
      | cons j st ih => rintro a w ⟨o, w', v, e1, e2, e3, e4, e5⟩; exact ⟨o, w', v, e1, e2, e3, e4, ih _ _ e5⟩
    have monoC : ∀ (r : List (Bool × Nat)) (a : Act) (I : World → Prop), chainT P ops S n0 ob0 ob1 (finT P ops S Q n0 ob0 ob1 st d0 d1) r a I →
        chainT P ops S n0 ob0 ob1 (finT P ops S (NoPanic Q) n0 ob0 ob1 st d0 d1) r a I := by
      intro r
      induction r with
      | nil => intro a I h w g0 g1 a1 a2 a3 a4 a5 a6; exact mono _ _ _ (h w g0 g1 a1 a2 a3 a4 a5 a6)
      | cons x r ih =>
        obtain ⟨b, i⟩ := x
        cases b with
        | true => rintro a I ⟨o, v, ho, hy, hr⟩; exact ⟨o, v, ho, hy, ih _ _ hr⟩
        | false =>
          rintro a I ⟨o, ho, hg, hr⟩
          refine ⟨o, ho, hg, fun w hw => ?_⟩
          have h := hr w hw
          generalize (execOp a.eval o).run P w = q at h ⊢
          cases q with
          | ok n w' =>
            cases n <;> simp only [Upon] at h ⊢
            case value v => obtain ⟨hb, I', c, j1, j2⟩ := h; exact ⟨hb, I', c, j1, ih _ _ j2⟩
            case enter f args => exact h.mono fun e w'' ⟨v, he, hb, I', c, j1, j2⟩ => ⟨v, he, hb, I', c, j1, ih _ _ j2⟩
          | halt x w' => simp only [Upon] at h
    exact monoC r a I h
end
end Go.Proofs.Ytjmlefcmhjodeaa.cards

/- A region that draws its order, with guarded operations and calls, one behind the other, and no new block that is kept. -/
namespace Go.Proofs.Ytjmlefcmhjodeaa.cards
open Go.RowKit
open reg
set_option linter.unusedVariables false

section
variable {P : Program} {md : Region.Mode} {ops : Array Oper} {Q : Exit → Act → World → Prop} {S : World → Prop}
def chainW (P : Program) (ops : Array Oper) (S : World → Prop) (K : Act → World → Prop) : List (Bool × Nat) → Act → (World → Prop) → Prop
  | [], a, I => ∀ w, I w → K a w
  | (true, i) :: r, a, I => ∃ o v, ops[i]? = some o ∧ YieldsIf P ops S o v a ∧ chainW P ops S K r (a.put o.dst v) I
  | (false, i) :: r, a, I => ∃ o, ops[i]? = some o ∧ Region.wanted o (yielded ops a.tmps) = true ∧ ∀ w, I w → Upon P (fun v w' => ∃ I' : World → Prop, (∀ w, I' w → S w) ∧ I' w' ∧ chainW P ops S K r (a.put o.dst v) I') ((execOp a.eval o).run P w)
theorem wpOp_uponW {i : Nat} {o : Oper} {a : Act} {w : World} {R : Value → World → Prop} {K : Act → World → Prop} (hi : ops[i]? = some o) (hg : Region.wanted o (yielded ops a.tmps) = true)
    (h : Upon P R ((execOp a.eval o).run P w)) (hK : ∀ v w', R v w' → K (a.put o.dst v) w') : wpOp P ops Q i K a w := by
  unfold wpOp
  simp only [hi, hg, if_true]
  refine .inl ?_
  unfold Oper.wp
  generalize (execOp a.eval o).run P w = r at h
  cases r with
  | ok n w' =>
    cases n <;> simp only [Upon] at h <;> simp only [Oper.upon]
    case value v => exact hK _ _ h
    case enter f args => exact h.mono fun e w'' ⟨v, he, hr⟩ => by subst he; exact hK _ _ hr
  | halt x w' => simp only [Upon] at h
theorem w_of {K : Act → World → Prop} (hsel : Region.noSelect ops = true) (hQ : ∀ c (d : Option Tmp) v a w, Q (.panic c) (a.put d v) w → Q (.panic c) a w) (hfin : ∀ a w, K a w → Q .normal a w) :
    ∀ (r : List (Bool × Nat)) (l : Array Bool) (a : Act) (I : World → Prop) (w : World), chainOkP md ops r l = true → (∀ w, I w → S w) → I w → chainW P ops S K r a I → wpAnyH P md ops Q S r.length l a w
  | [], l, a, I, w, hok, hc, hI, h => wpAnyH_done (by simpa [chainOkP] using hok) (hfin _ _ (h w hI)) 0
  | (true, i) :: r, l, a, I, w, hok, hc, hI, h => by
    simp only [chainOkP, Bool.and_eq_true] at hok
    obtain ⟨⟨h1, h2⟩, h7⟩ := hok
    obtain ⟨o, v, ho, hy, hr⟩ := h
    exact wpAnyH_take (v := v) ho hsel h1 h2 (fun c a w => hQ c _ _ a w) hy (hc _ hI) (w_of hsel hQ hfin r _ _ I w h7 hc hI hr)
  | (false, i) :: r, l, a, I, w, hok, hc, hI, h => by
    simp only [chainOkP, Bool.and_eq_true, beq_iff_eq] at hok
    obtain ⟨h1, h7⟩ := hok
    obtain ⟨o, ho, hgd, hr⟩ := h
    refine wpAnyH_all h1 (by simp) fun j hj => ?_
    obtain rfl : j = i := by simpa using hj
    exact wpOp_uponW ho hgd (hr w hI) fun v w' ⟨I', hc', hI', hr'⟩ => ⟨hc' _ hI', w_of hsel hQ hfin r _ _ I' w' h7 hc' hI' hr'⟩
/-- THE LAW. -/
theorem region_W {id : Nat} {a : Act} {w : World} (r : List (Bool × Nat)) (S I : World → Prop) (hm : P.follows .mixedOrders = true)
    (hok : chainOkP .any ops r (Array.replicate ops.size false) = true) (hlen : ops.size = r.length) (hsel : Region.noSelect ops = true) (hc : ∀ w, I w → S w) (hI : I w.drew)
    (h : chainW P ops S (Q .normal) r a I) : (Code.region id ops true).wp P Q a w := by
  refine wp_region_noPanic (wp_region_held hm (S := S) ?_)
  have k := w_of (md := .any) (Q := NoPanic Q) (S := S) (K := Q .normal) hsel (fun _ _ _ _ _ h => h) (fun a w h => NoPanic.normal h) r _ a I _ hok hc hI h
  rw [← hlen] at k; exact k
end
section
variable {ops : Array Oper} {S : World → Prop} {K : Act → World → Prop}
theorem w_pure (d : Tmp) {i : Nat} {r : List (Bool × Nat)} {a : Act} {I : World → Prop} {v : Value} {o : Oper} (ho : ops[i]? = some o) (hd : o.dst = some d) (hg : Region.wanted o (yielded ops a.tmps) = true)
    (he : ∀ w, (execOp a.eval o).run Try.prog w = .ok (.value v) w) (hr : chainW Try.prog ops S K r (a.put (some d) v) I) : chainW Try.prog ops S K ((true, i) :: r) a I :=
  ⟨o, v, ho, .inl ⟨hg, fun w _ => he w⟩, hd ▸ hr⟩
theorem w_skip (d : Tmp) {i : Nat} {r : List (Bool × Nat)} {a : Act} {I : World → Prop} {o : Oper} (ho : ops[i]? = some o) (hd : o.dst = some d) (hg : Region.wanted o (yielded ops a.tmps) = false)
    (hr : chainW Try.prog ops S K r (a.put (some d) undef) I) : chainW Try.prog ops S K ((true, i) :: r) a I :=
  ⟨o, undef, ho, .inr ⟨hg, rfl⟩, hd ▸ hr⟩
theorem w_card (d : Tmp) {i : Nat} {r : List (Bool × Nat)} {a : Act} {I : World → Prop} {o : Oper} (ho : ops[i]? = some o) (hd : o.dst = some d) (hg : Region.wanted o (yielded ops a.tmps) = true)
    (x : Operand) (hx : o.op = .load 25 x) {g off : Nat} (hp : a.eval x = .pointer (some ⟨g, off, none⟩)) (c : Cd)
    (hS : ∀ w, S w → w.cell? ⟨g, off, none⟩ = some (.int .i64 c.a) ∧ w.cell? ⟨g, off + 1, none⟩ = some (.int .i64 c.b) ∧ w.cell? ⟨g, off + 2, none⟩ = some (.int .i64 c.c) ∧ w.cell? ⟨g, off + 3, none⟩ = some (.int .i64 c.d))
    (hr : chainW Try.prog ops S K r (a.put (some d) c.val) I) : chainW Try.prog ops S K ((true, i) :: r) a I :=
  ⟨o, c.val, ho, yieldsIf_load_mid hg 25 x hx g off hp c.cells _ (fun w hw j v hv => by
    obtain ⟨h0, h1, h2, h3⟩ := hS w hw
    match j, hv with
    | 0, hv => simp [Cd.cells] at hv; rw [← hv]; exact h0
    | 1, hv => simp [Cd.cells] at hv; rw [← hv]; exact h1
    | 2, hv => simp [Cd.cells] at hv; rw [← hv]; exact h2
    | 3, hv => simp [Cd.cells] at hv; rw [← hv]; exact h3
    | n + 4, hv => simp [Cd.cells] at hv) Try.underlying25 rfl (by kernel_rfl), hd ▸ hr⟩
theorem w_call (d : Tmp) {i : Nat} {r : List (Bool × Nat)} {a : Act} {W : World} {f : FuncId} {args : Array Value} {v : Value} {o : Oper} (ho : ops[i]? = some o) (hd : o.dst = some d) (hg : Region.wanted o (yielded ops a.tmps) = true)
    (he : ∀ w, (execOp a.eval o).run Try.prog w = .ok (.enter f args) w) (h : ∀ w, BI W w → Calls Try.prog f args w (fun e w' => e = .returned v ∧ Below w.heap.size w w'))
    (hr : chainW Try.prog ops (BI W) K r (a.put (some d) v) (BI W)) : chainW Try.prog ops (BI W) K ((false, i) :: r) a (BI W) :=
  ⟨o, ho, hg, fun w hI => by
    rw [he]
    exact (h w hI).mono fun e w' ⟨h1, h2⟩ => ⟨v, h1, BI W, fun _ h => h, BI.next hI h2, hd ▸ hr⟩⟩
/-- A region that starts where nothing has turned. -/
theorem region_WB {id : Nat} {a : Act} {W : World} {Q : Exit → Act → World → Prop} (r : List (Bool × Nat)) (hok : chainOkP .any ops r (Array.replicate ops.size false) = true) (hlen : ops.size = r.length) (hsel : Region.noSelect ops = true)
    (h : chainW Try.prog ops (BI W) (Q .normal) r a (BI W)) : (Code.region id ops true).wp Try.prog Q a W :=
  region_W r (BI W) (BI W) (by kernel_rfl) hok hlen hsel (fun _ h => h) (BI.start W) h
theorem exec_neqC {x y : Cd} (hx : x.ok = true) (hy : y.ok = true) {a : Act} {o : Oper} {p q : Operand} {s : TypeId} (ho : o.op = .binOp .neq 25 p q s) (hp : a.eval p = x.val) (hq : a.eval q = y.val) (w : World) :
    (execOp a.eval o).run Try.prog w = .ok (.value (.bool (!same x y))) w := by
  have h := eq_run x y hx hy w
  unfold execOp
  rw [ho]
  simp only [hp, hq]
  go_simp
theorem exec_eqlC {x y : Cd} (hx : x.ok = true) (hy : y.ok = true) {a : Act} {o : Oper} {p q : Operand} {s : TypeId} (ho : o.op = .binOp .eql 25 p q s) (hp : a.eval p = x.val) (hq : a.eval q = y.val) (w : World) :
    (execOp a.eval o).run Try.prog w = .ok (.value (.bool (same x y))) w := by
  have h := eq_run x y hx hy w
  unfold execOp
  rw [ho]
  simp only [hp, hq]
  go_simp
end
end Go.Proofs.Ytjmlefcmhjodeaa.cards

/- QuadsIn: the model. -/
namespace Go.Proofs.Ytjmlefcmhjodeaa.others
open Go.RowKit
open cards reg
set_option linter.unusedVariables false

theorem q3_low {l : List Cd} {i k m : Nat} : ∀ {n : Nat}, n ≤ m + 1 → q3 l i k m n = []
  | 0, _ => rfl
  | n + 1, h => by rw [q3, q3_low (by omega), if_neg (fun hh => by omega)]; rfl
theorem q2_low {l : List Cd} {i k : Nat} : ∀ {n : Nat}, n ≤ k + 1 → q2 l i k n = []
  | 0, _ => rfl
  | n + 1, h => by rw [q2, q2_low (by omega), if_neg (by omega)]; rfl
theorem q1_low {l : List Cd} {i : Nat} : ∀ {n : Nat}, n ≤ i + 1 → q1 l i n = []
  | 0, _ => rfl
  | n + 1, h => by rw [q1, q1_low (by omega), if_neg (by omega)]; rfl
theorem q2_step {l : List Cd} {i k m : Nat} (h : k < m) : q2 l i k (m + 1) = q2 l i k m ++ q3 l i k m l.length := by rw [q2, if_pos h]
theorem q1_step {l : List Cd} {i k : Nat} (h : i < k) : q1 l i (k + 1) = q1 l i k ++ q2 l i k l.length := by rw [q1, if_pos h]
theorem q3_yes {l : List Cd} {i k m n : Nat} (h : m < n) (hq : quadB l i k m n = true) : q3 l i k m (n + 1) = q3 l i k m n ++ [⟨i, k, m, n⟩] := by rw [q3, if_pos ⟨h, hq⟩]
theorem q3_no {l : List Cd} {i k m n : Nat} (hq : quadB l i k m n = false) : q3 l i k m (n + 1) = q3 l i k m n := by rw [q3, if_neg (fun hh => by rw [hq] at hh; cases hh.2), List.append_nil]
theorem q3_len (l : List Cd) (i k m : Nat) : ∀ n : Nat, (q3 l i k m n).length ≤ n
  | 0 => by simp [q3]
  | n + 1 => by
    have := q3_len l i k m n
    rw [q3, List.length_append]
    split <;> simp <;> omega
theorem q2_len (l : List Cd) (i k : Nat) : ∀ n : Nat, (q2 l i k n).length ≤ n * l.length
  | 0 => by simp [q2]
  | n + 1 => by
    have := q2_len l i k n
    have := q3_len l i k n l.length
    rw [q2, List.length_append, Nat.succ_mul]
    split <;> simp <;> omega
theorem q1_len (l : List Cd) (i : Nat) : ∀ n : Nat, (q1 l i n).length ≤ n * (l.length * l.length)
  | 0 => by simp [q1]
  | n + 1 => by
    have := q1_len l i n
    have := q2_len l i n l.length
    rw [q1, List.length_append, Nat.succ_mul]
    split <;> simp <;> omega
theorem allQ_len (l : List Cd) : ∀ n : Nat, (allQ l n).length ≤ n * (l.length * (l.length * l.length))
  | 0 => by simp [allQ]
  | n + 1 => by
    have := allQ_len l n
    have := q1_len l n l.length
    rw [allQ, List.length_append, Nat.succ_mul]
    omega
theorem quad_part {l : List Cd} {N : Nat} (hN : l.length = N) (h : N ≤ 12) {i k m n : Nat} (hi : i ≤ N) (hk : k ≤ N) (hm : m ≤ N) (hn : n ≤ N) (i1 i2 k2 i3 k3 m3 : Nat) : (allQ l i ++ q1 l i1 k ++ q2 l i2 k2 m ++ q3 l i3 k3 m3 n).length ≤ 1000000 := by
  have h1 := allQ_len l i
  have h2 := q1_len l i1 k
  have h3 := q2_len l i2 k2 m
  have h4 := q3_len l i3 k3 m3 n
  rw [hN] at h1 h2 h3
  have e1 : N * N ≤ 12 * 12 := Nat.mul_le_mul h h
  have e2 : N * (N * N) ≤ 12 * (12 * 12) := Nat.mul_le_mul h e1
  have e3 : i * (N * (N * N)) ≤ 12 * (12 * (12 * 12)) := Nat.mul_le_mul (by omega) e2
  have e4 : k * (N * N) ≤ 12 * (12 * 12) := Nat.mul_le_mul (by omega) e1
  have e5 : m * N ≤ 12 * 12 := Nat.mul_le_mul (by omega) h
  simp only [List.length_append]
  omega
theorem quadR_len (l : List Cd) : (quadR l).1.length ≤ 100000000 := by
  unfold quadR
  split
  · rename_i h
    have h1 := allQ_len l l.length
    have e1 : l.length * l.length ≤ 12 * 12 := Nat.mul_le_mul h.2 h.2
    have e2 : l.length * (l.length * l.length) ≤ 12 * (12 * 12) := Nat.mul_le_mul h.2 e1
    have e3 : l.length * (l.length * (l.length * l.length)) ≤ 12 * (12 * (12 * 12)) := Nat.mul_le_mul h.2 e2
    show (allQ l l.length).length ≤ _
    omega
  · simp
theorem exec_gtr0 {a : Act} {o : Oper} {p : Operand} {s : TypeId} {n : Nat} (ho : o.op = .binOp .gtr 3 p (.const (.int .i64 0)) s) (hp : a.eval p = .int .i64 n) (w : World) :
    (execOp a.eval o).run Try.prog w = .ok (.value (.bool (decide (0 < n)))) w := by
  unfold execOp
  rw [ho]
  simp only [hp]
  go_simp

set_option maxRecDepth 100000 in
set_option maxHeartbeats 8000000 in
theorem spec_quads (l : List Cd) (p : Option Addr) (N cp : Nat) (w : World) (hn : l.length = N) (hl : N ≤ 1000000000) (hr : Rd w p (flat l)) :
    Calls Try.prog 41 #[.slice p N cp] w fun e w' => ∃ u, e = .returned (.tuple #[u, .bool (quadR l).2]) ∧ Own w' w.heap.size u (quadR l).1 ∧ Below w.heap.size w w' := by
  have HN := Lib.hid hn
  have HR0 := Lib.hid hr
  clear hn hr
  have HO0 := Lib.hid (Own.empty w w.heap.size (Nat.le_refl _))
  have HB : Hid (Below w.heap.size w (w.alloc (.cells #[] 25))) := Lib.hid ((Below.refl _ _).alloc (Nat.le_refl _) _)
  go_enter Try.func41, Try.ntmps41
  go_upto_region 2 with fail
  generalize w.alloc (.cells #[] 25) = W at *
  obtain ⟨g, hg⟩ : ∃ g, w.heap.size = g := ⟨_, rfl⟩
  have HGe := Lib.hid hg
  rw [hg] at HO0
  try rw [hg]
  clear hg
  go_wp2_with fail
  refine (l2_hand l p N cp _ HN.out hl (HR0.out.below HB.out)).mono ?_
  rintro e w1 ⟨rfl, b⟩
  have Sw1 := Lib.hid b.size
  have HB := Lib.hid (chain0 (w := w) (by repeat (first | with_reducible exact Below.refl _ _ | with_reducible exact HB.out | with_reducible apply Below.drew | with_reducible apply bdN | with_reducible refine Below.alloc ?_ (by first | exact Nat.le_refl _ | with_reducible exact HB.out.size | omega | (simp; done) | (simp; omega) | (have := HB.out.size; simp at *; omega)) _ | with_reducible refine Below.setCell ?_ (by first | exact Nat.le_refl _ | with_reducible exact HB.out.size | omega | (simp; done) | (simp; omega) | (have := HB.out.size; simp at *; omega)) _)) b)
  have HO0 := Lib.hid (Own.below (by repeat (first | with_reducible exact HO0.out | with_reducible apply Own.drewN | with_reducible apply Own.drew | with_reducible apply Own.alloc)) b)
  clear b
  cases hh : handB l
  · have HT := Lib.hid (quadR_no (l := l) (.inl hh))
    clear hh
    go_wp2_with fail
    go_ret2
    exact ⟨_, ret_two (by rw [HT.out]), by rw [HT.out, HGe.out]; exact HO0.out, HB.out⟩
  · by_cases h12 : 12 < N
    · have HT := Lib.hid (quadR_no (l := l) (.inr (by rw [HN.out]; exact h12)))
      have m12 : (12 : Int) < (N : Int) := by omega
      clear hh
      go_wp2_with fail
      go_ret2
      exact ⟨_, ret_two (by rw [HT.out]), by rw [HT.out, HGe.out]; exact HO0.out, HB.out⟩
    · have m12 : ¬ (12 : Int) < (N : Int) := by omega
      have HT := Lib.hid (show quadR l = (allQ l N, true) by unfold quadR; rw [if_pos ⟨hh, by rw [HN.out]; omega⟩, HN.out])
      have HH := Lib.hid (handB_true.1 hh)
      clear hh
      go_wp2_with fail
      go_loopw [4, 5, 6, 7, 8] (fun o a _ _ _ wr => ∃ i : Nat, i ≤ N ∧ a = .int .i64 i ∧ Hid (Own wr w.heap.size o (allQ l i)) ∧ Hid (Below w.heap.size w wr)) (fun _ a _ _ _ _ => N - (intOf a).toNat)
      case atStart => exact ⟨0, Nat.zero_le _, rfl, by rw [HGe.out]; exact HO0, HB⟩
      case round =>
        clear HO0 HB
        obtain ⟨i, hi, rfl, HO, HB⟩ := hrel
        have i0 : (0 : Int) ≤ (i : Int) := by omega
        by_cases hit : i < N
        · have i1 : (i : Int) < (N : Int) := by omega
          obtain ⟨wo, HWo⟩ : ∃ wo : World, Hid (wo = wr) := ⟨_, rfl⟩
          go_wp2_with fail
          go_loopw [4, 6, 7, 8] (fun o a _ _ wr => ∃ k : Nat, k ≤ N ∧ i < k ∧ a = .int .i64 k ∧ Hid (Own wr w.heap.size o (allQ l i ++ q1 l i k)) ∧ Hid (Below w.heap.size w wr)) (fun _ a _ _ _ => N - (intOf a).toNat)
          case atStart => exact ⟨i + 1, by omega, by omega, by go_num, by rw [q1_low (Nat.le_refl _), List.append_nil]; exact HO, HB⟩
          case round =>
            clear HO HB
            obtain ⟨k, hk, hik, rfl, HO, HB⟩ := hrel
            have k0 : (0 : Int) ≤ (k : Int) := by omega
            by_cases hkt : k < N
            · have k1 : (k : Int) < (N : Int) := by omega
              obtain ⟨wo2, HWo2⟩ : ∃ wo : World, Hid (wo = wr) := ⟨_, rfl⟩
              go_wp2_with fail
              go_loopw [4, 7, 8] (fun o a _ wr => ∃ m : Nat, m ≤ N ∧ k < m ∧ a = .int .i64 m ∧ Hid (Own wr w.heap.size o (allQ l i ++ q1 l i k ++ q2 l i k m)) ∧ Hid (Below w.heap.size w wr)) (fun _ a _ _ => N - (intOf a).toNat)
              case atStart => exact ⟨k + 1, by omega, by omega, by go_num, by rw [q2_low (Nat.le_refl _), List.append_nil]; exact HO, HB⟩
              case round =>
                clear HO HB
                obtain ⟨m, hm, hkm, rfl, HO, HB⟩ := hrel
                have m0 : (0 : Int) ≤ (m : Int) := by omega
                by_cases hmt : m < N
                · have m1 : (m : Int) < (N : Int) := by omega
                  obtain ⟨wo3, HWo3⟩ : ∃ wo : World, Hid (wo = wr) := ⟨_, rfl⟩
                  go_wp2_with fail
                  go_loopw [4, 8] (fun o a wr => ∃ n : Nat, n ≤ N ∧ m < n ∧ a = .int .i64 n ∧ Hid (Own wr w.heap.size o (allQ l i ++ q1 l i k ++ q2 l i k m ++ q3 l i k m n)) ∧ Hid (Below w.heap.size w wr)) (fun _ a _ => N - (intOf a).toNat)
                  case atStart => exact ⟨m + 1, by omega, by omega, by go_num, by rw [q3_low (Nat.le_refl _), List.append_nil]; exact HO, HB⟩
                  case round =>
                    clear HO HB
                    obtain ⟨n, hn, hmn, rfl, HO, HB⟩ := hrel
                    have n0 : (0 : Int) ≤ (n : Int) := by omega
                    by_cases hnt : n < N
                    · have n1 : (n : Int) < (N : Int) := by omega
                      have HLn := Lib.hid (quad_part HN.out (by omega) (i := i) (k := k) (m := m) (n := n) (by omega) (by omega) (by omega) (by omega) i i k i k m)
                      obtain ⟨b, o, x, rfl, hb, hx, a0, a1, a2, a3⟩ := (HR0.out.below HB.out).card (k := i) (by rw [HN.out]; exact hit)
                      obtain ⟨y, hy⟩ : ∃ y, l[k]? = some y := ⟨_, List.getElem?_eq_getElem (by rw [HN.out]; exact hkt)⟩
                      obtain ⟨z, hz⟩ : ∃ z, l[m]? = some z := ⟨_, List.getElem?_eq_getElem (by rw [HN.out]; exact hmt)⟩
                      obtain ⟨t, ht⟩ : ∃ t, l[n]? = some t := ⟨_, List.getElem?_eq_getElem (by rw [HN.out]; exact hnt)⟩
                      obtain ⟨b0, b1, b2, b3⟩ := (HR0.out.below HB.out).at_ hy
                      obtain ⟨c0, c1, c2, c3⟩ := (HR0.out.below HB.out).at_ hz
                      obtain ⟨d0, d1, d2, d3⟩ := (HR0.out.below HB.out).at_ ht
                      have cell := fun (w' : World) (h : BI wr w') (q : Nat) => Below.cell h (p := ⟨b, q, none⟩) hb
                      have HX := Lib.hid (fun (w' : World) (h : BI wr w') => (⟨(cell w' h _).trans a0, (cell w' h _).trans a1, (cell w' h _).trans a2, (cell w' h _).trans a3⟩ : w'.cell? ⟨b, o + i * 4, none⟩ = some (.int .i64 x.a) ∧ w'.cell? ⟨b, o + i * 4 + 1, none⟩ = some (.int .i64 x.b) ∧ w'.cell? ⟨b, o + i * 4 + 2, none⟩ = some (.int .i64 x.c) ∧ w'.cell? ⟨b, o + i * 4 + 3, none⟩ = some (.int .i64 x.d)))
                      have HY := Lib.hid (fun (w' : World) (h : BI wr w') => (⟨(cell w' h _).trans b0, (cell w' h _).trans b1, (cell w' h _).trans b2, (cell w' h _).trans b3⟩ : w'.cell? ⟨b, o + k * 4, none⟩ = some (.int .i64 y.a) ∧ w'.cell? ⟨b, o + k * 4 + 1, none⟩ = some (.int .i64 y.b) ∧ w'.cell? ⟨b, o + k * 4 + 2, none⟩ = some (.int .i64 y.c) ∧ w'.cell? ⟨b, o + k * 4 + 3, none⟩ = some (.int .i64 y.d)))
                      have HZ := Lib.hid (fun (w' : World) (h : BI wr w') => (⟨(cell w' h _).trans c0, (cell w' h _).trans c1, (cell w' h _).trans c2, (cell w' h _).trans c3⟩ : w'.cell? ⟨b, o + m * 4, none⟩ = some (.int .i64 z.a) ∧ w'.cell? ⟨b, o + m * 4 + 1, none⟩ = some (.int .i64 z.b) ∧ w'.cell? ⟨b, o + m * 4 + 2, none⟩ = some (.int .i64 z.c) ∧ w'.cell? ⟨b, o + m * 4 + 3, none⟩ = some (.int .i64 z.d)))
                      have HTt := Lib.hid (fun (w' : World) (h : BI wr w') => (⟨(cell w' h _).trans d0, (cell w' h _).trans d1, (cell w' h _).trans d2, (cell w' h _).trans d3⟩ : w'.cell? ⟨b, o + n * 4, none⟩ = some (.int .i64 t.a) ∧ w'.cell? ⟨b, o + n * 4 + 1, none⟩ = some (.int .i64 t.b) ∧ w'.cell? ⟨b, o + n * 4 + 2, none⟩ = some (.int .i64 t.c) ∧ w'.cell? ⟨b, o + n * 4 + 3, none⟩ = some (.int .i64 t.d)))
                      have HM := Lib.hid (fun w => l10_middles x y z t w (ok_at HH.out.2.1 hx) (ok_at HH.out.2.1 hy) (ok_at HH.out.2.1 hz) (ok_at HH.out.2.1 ht) (hand_ne HH.out.2.2 hkm hy hz) (hand_ne HH.out.2.2 (by omega : k < n) hy ht) (hand_ne HH.out.2.2 hmn hz ht))
                      have HQB := Lib.hid (show decide (0 < (mids x y z t).length) = quadB l i k m n by unfold quadB; rw [hx, hy, hz, ht])
                      clear cell hx hy hz ht a0 a1 a2 a3 b0 b1 b2 b3 c0 c1 c2 c3 d0 d1 d2 d3
                      generalize (mids x y z t) = L at *
                      go_upto_region 16 with fail
                      refine region_BI [(true, 0), (true, 1), (true, 2), (true, 3), (true, 4), (true, 5), (true, 6), (true, 7), (true, 8), (true, 9), (true, 10), (true, 11), (true, 12), (true, 13), (true, 14), (true, 15), (false, 16), (true, 17), (true, 18)] (by kernel_rfl) rfl (by kernel_rfl) ?_
                      refine chain_pure 49 (v := .slice (some ⟨b, o, none⟩) N cp) rfl rfl rfl (fun w => by kernel_rfl) ?_
                      refine chain_pure 50 (v := .int .i64 i) rfl rfl rfl (fun w => by kernel_rfl) ?_
                      refine chain_pure 51 (v := .pointer (some ⟨b, o + i * 4, none⟩)) rfl rfl rfl (exec_indexS (cp := cp) hit rfl (by kernel_rfl) (by kernel_rfl)) ?_
                      refine chain_card 52 rfl rfl rfl _ rfl (by kernel_rfl) x HX.out ?_
                      refine chain_pure 53 (v := .slice (some ⟨b, o, none⟩) N cp) rfl rfl rfl (fun w => by kernel_rfl) ?_
                      refine chain_pure 54 (v := .int .i64 k) rfl rfl rfl (fun w => by kernel_rfl) ?_
                      refine chain_pure 55 (v := .pointer (some ⟨b, o + k * 4, none⟩)) rfl rfl rfl (exec_indexS (cp := cp) hkt rfl (by kernel_rfl) (by kernel_rfl)) ?_
                      refine chain_card 56 rfl rfl rfl _ rfl (by kernel_rfl) y HY.out ?_
                      refine chain_pure 57 (v := .slice (some ⟨b, o, none⟩) N cp) rfl rfl rfl (fun w => by kernel_rfl) ?_
                      refine chain_pure 58 (v := .int .i64 m) rfl rfl rfl (fun w => by kernel_rfl) ?_
                      refine chain_pure 59 (v := .pointer (some ⟨b, o + m * 4, none⟩)) rfl rfl rfl (exec_indexS (cp := cp) hmt rfl (by kernel_rfl) (by kernel_rfl)) ?_
                      refine chain_card 60 rfl rfl rfl _ rfl (by kernel_rfl) z HZ.out ?_
                      refine chain_pure 61 (v := .slice (some ⟨b, o, none⟩) N cp) rfl rfl rfl (fun w => by kernel_rfl) ?_
                      refine chain_pure 62 (v := .int .i64 n) rfl rfl rfl (fun w => by kernel_rfl) ?_
                      refine chain_pure 63 (v := .pointer (some ⟨b, o + n * 4, none⟩)) rfl rfl rfl (exec_indexS (cp := cp) hnt rfl (by kernel_rfl) (by kernel_rfl)) ?_
                      refine chain_card 64 rfl rfl rfl _ rfl (by kernel_rfl) t HTt.out ?_
                      refine chain_callE 65 rfl rfl rfl (fun w => by kernel_rfl) (fun w0 h0 => (HM.out w0).mono ?_)
                      rintro e wq ⟨u, rfl, hu, bq⟩
                      obtain ⟨pu, cu, rfl, _, _, _⟩ := hu.form
                      refine ⟨_, rfl, bq, BI wr, ⟨fun w' h => h, fun w' h => Below.size h, fun w' h => Below.alloc h (Below.size h) _⟩, BI.next h0 bq, ?_⟩
                      clear bq h0 hu
                      refine chain_pure 66 (v := .int .i64 L.length) rfl rfl rfl (fun w => by kernel_rfl) ?_
                      refine chain_pure 67 (v := .bool (decide (0 < L.length))) rfl rfl rfl (exec_gtr0 rfl (by kernel_rfl)) ?_
                      rintro w5 b
                      simp only [Act.put, List.setIfInBounds_toArray, List.set_cons_zero, List.set_cons_succ]
                      have HO := Lib.hid (Own.below HO.out b)
                      have HB := Lib.hid (chain0 HB.out b)
                      clear b
                      rw [HQB.out]
                      cases hq : quadB l i k m n
                      · have HF := Lib.hid (q3_no hq)
                        clear hq
                        go_wp2_with fail
                        go_roundw
                        case rel => exact ⟨n + 1, by omega, by omega, by go_num, by rw [HF.out]; exact HO, HB⟩
                        case measure => simp [intOf]; omega
                      · have HF := Lib.hid (q3_yes hmn hq)
                        clear hq
                        go_wp2_with (at_builtin; refine append_cd rfl (.tmp 68) (.tmp 74) rfl w.heap.size _ (allQ l i ++ q1 l i k ++ q2 l i k m ++ q3 l i k m n) ⟨(i : Int), (k : Int), (m : Int), (n : Int)⟩ _ _ rfl rfl rfl HO.out (by have := HLn.out; omega) HB.out.size ?_; intro v1 w6 hO1 hB1)
                        rw [List.append_assoc, ← HF.out] at hO1
                        go_roundw
                        case rel => exact ⟨n + 1, by omega, by omega, by go_num, hO1, HB.out.trans hB1⟩
                        case measure => simp [intOf]; omega
                    · obtain rfl : n = N := by omega
                      go_wp2_with fail
                      go_roundw
                      case rel => exact ⟨m + 1, by omega, by omega, by go_num, by rw [q2_step hkm, ← List.append_assoc, HN.out]; exact HO, HB⟩
                      case measure => simp [intOf]; omega
                · obtain rfl : m = N := by omega
                  go_wp2_with fail
                  go_roundw
                  case rel => exact ⟨k + 1, by omega, by omega, by go_num, by rw [q1_step hik, ← List.append_assoc, HN.out]; exact HO, HB⟩
                  case measure => simp [intOf]; omega
            · obtain rfl : k = N := by omega
              go_wp2_with fail
              go_roundw
              case rel => exact ⟨i + 1, by omega, by go_num, by rw [show allQ l (i + 1) = allQ l i ++ q1 l i l.length from rfl, HN.out]; exact HO, HB⟩
              case measure => simp [intOf]; omega
        · obtain rfl : i = N := by omega
          go_wp2_with fail
          go_ret2
          exact ⟨_, ret_two (by rw [HT.out]), by rw [HT.out]; exact HO.out, HB.out⟩
end Go.Proofs.Ytjmlefcmhjodeaa.others

/- QuadsIn: both. -/

