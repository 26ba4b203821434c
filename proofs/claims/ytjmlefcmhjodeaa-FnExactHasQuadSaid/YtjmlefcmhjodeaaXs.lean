/- pairsByThird. -/
import Derived.Test.YtjmlefcmhjodeaaXr
import Derived.Deep.DeepCutAuto
namespace Go.Proofs.Ytjmlefcmhjodeaa.others
open Go.RowKit
open Go.Maps (Keyed)
open cards reg
set_option linter.unusedVariables false

theorem take_entry {ops : Array Oper} {rest : List Oper} {o : Oper} {a : Act} {Q : Exit → Act → World → Prop} {w w1 : World} {T : TypeId} {g : Nat} {key v : Value} (hg : o.guard = none) (m x : Operand) (hop : o.op = Op.mapEntry T m x)
    (hm : a.eval m = .map (some g)) (hx : a.eval x = key) (hrun : (Instr.mapEntry T (.map (some g)) key).run Try.prog w = .ok v w1) (hK : wpList Try.prog ops Q rest (a.put o.dst v) w1) : wpList Try.prog ops Q (o :: rest) a w := by
  refine wpList_plain hg fun K' hK' => ?_
  unfold Oper.wp
  simp [execOp, hop, hm, hx, hrun, Result.andThen]
  exact hK' _ _ hK
theorem take_entryStore {ops : Array Oper} {rest : List Oper} {o : Oper} {a : Act} {Q : Exit → Act → World → Prop} {w w1 : World} {T : TypeId} {g : Nat} {st v : Value} (hg : o.guard = none) (m s x : Operand) (hop : o.op = Op.entryStore T m s x)
    (hm : a.eval m = .map (some g)) (hs : a.eval s = st) (hx : a.eval x = v) (hrun : (Instr.entryStore T (.map (some g)) st v).run Try.prog w = .ok () w1) (hK : wpList Try.prog ops Q rest (a.put o.dst undef) w1) : wpList Try.prog ops Q (o :: rest) a w := by
  refine wpList_plain hg fun K' hK' => ?_
  unfold Oper.wp
  simp [execOp, hop, hm, hs, hx, hrun, Result.andThen]
  exact hK' _ _ hK
/-- Block g is a map whose slices are the lists F tells, in rows of their own from block B on, and not in u's row. -/
def PM (w : World) (B g m : Nat) (u : Value) (F : Cd → List A2) : Prop := ∃ V : Cd → Value, MapV w g m V ∧ (∀ x : Cd, x.ok = true → OwnA2 w B (V x) (F x)) ∧ (∀ x y : Cd, x.ok = true → y.ok = true → same x y = false → Ap (V x) (V y)) ∧ (∀ x : Cd, x.ok = true → Ap (V x) u) ∧ g < B
theorem ap_nil {u : Value} : Ap nilv u := fun g h => by simp [Value.ownBlock] at h
theorem PM.made {w w1 : World} {u : Value} (b : Below w.heap.size w w1) (h : MapV w1 w.heap.size 0 (fun _ => nilv)) : PM w1 (w.heap.size + 1) w.heap.size 0 u (fun _ => []) :=
  ⟨_, h, fun x _ => ⟨rfl, .inl ⟨rfl, rfl⟩⟩, fun _ _ _ _ _ => ap_nil, fun _ _ => ap_nil, Nat.lt_succ_self _⟩
theorem PM.below {w w1 : World} {B g m : Nat} {u : Value} {F : Cd → List A2} (h : PM w B g m u F) (b : Below w.heap.size w w1) : PM w1 B g m u F := by
  obtain ⟨V, h1, h2, h3, h4, h5⟩ := h
  exact ⟨V, h1.below b, fun x hx => (h2 x hx).below b, h3, h4, h5⟩
theorem PM.alloc {w : World} {B g m : Nat} {u : Value} {F : Cd → List A2} (h : PM w B g m u F) (o : Obj) : PM (w.alloc o) B g m u F := h.below ((Below.refl _ _).alloc (Nat.le_refl _) o)
theorem PM.drew {w : World} {B g m : Nat} {u : Value} {F : Cd → List A2} (h : PM w B g m u F) : PM w.drew B g m u F := h.below (Below.drew (Below.refl _ _))
theorem PM.drewN {w : World} {B g m : Nat} {u : Value} {F : Cd → List A2} (h : PM w B g m u F) (n : Nat) : PM (w.drewN n) B g m u F := h.below (bdN (Below.refl _ _) n)
theorem PM.lt {w : World} {B g m : Nat} {u : Value} {F : Cd → List A2} (h : PM w B g m u F) : g < w.heap.size := by obtain ⟨V, h1, _⟩ := h; exact h1.lt
theorem PM.step {w w8 w9 : World} {B g m : Nat} {u v1 : Value} {F : Cd → List A2} {V : Cd → Value} {c : Cd} {p : A2} (hc : c.ok = true) (h9 : MapV w9 g (m + 1) (putV V c v1)) (h2 : ∀ x : Cd, x.ok = true → OwnA2 w B (V x) (F x))
    (h3 : ∀ x y : Cd, x.ok = true → y.ok = true → same x y = false → Ap (V x) (V y)) (h4 : ∀ x : Cd, x.ok = true → Ap (V x) u) (h5 : g < B) (hu : ∀ q, u.ownBlock = some q → q < w.heap.size)
    (h1 : OwnA2 w8 B v1 (F c ++ [p])) (hG : w.grownBy w8 (V c).ownBlock) (hA : v1.ownBlock = (V c).ownBlock ∨ v1.ownBlock = some w.heap.size) (hg9 : w8.grownBy w9 (some g)) :
    PM w9 B g (m + 1) u (fun x => if same x c = true then F c ++ [p] else F x) := by
  refine ⟨_, h9, fun x hx => ?_, fun x y hx hy hxy => ?_, fun x hx => ?_, h5⟩
  · show OwnA2 w9 B (if same x c = true then v1 else V x) (if same x c = true then F c ++ [p] else F x)
    cases hs : same x c
    · simp only [Bool.false_eq_true, if_false]
      have hcx : same c x = false := by rw [Bool.eq_false_iff] at hs ⊢; intro e; exact hs (same_iff.2 (same_iff.1 e).symm)
      exact OwnA2.off (OwnA2.past (h2 x hx) hG (h3 c x hc hx hcx)) hg9 h5
    · simp only [if_true]
      exact OwnA2.off h1 hg9 h5
  · unfold putV
    have lt : ∀ z : Cd, z.ok = true → ∀ q, (V z).ownBlock = some q → q < w.heap.size := fun z hz q hq => ((h2 z hz).span q hq).2
    cases hs : same x c
    · cases ht : same y c
      · simp only [Bool.false_eq_true, if_false]; exact h3 x y hx hy hxy
      · simp only [Bool.false_eq_true, if_false, if_true]
        have hcx : same c x = false := by rw [Bool.eq_false_iff] at hs ⊢; intro e; exact hs (same_iff.2 (same_iff.1 e).symm)
        exact (Ap.next (h3 c x hc hx hcx) (lt x hx) hA).symm
    · cases ht : same y c
      · simp only [Bool.false_eq_true, if_false, if_true]
        have hcy : same c y = false := by rw [Bool.eq_false_iff] at ht ⊢; intro e; exact ht (same_iff.2 (same_iff.1 e).symm)
        exact Ap.next (h3 c y hc hy hcy) (lt y hy) hA
      · have e1 := same_iff.1 hs
        have e2 := same_iff.1 ht
        rw [e1, e2] at hxy
        rw [same_iff.2 rfl] at hxy; cases hxy
  · unfold putV
    split
    · exact Ap.next (h4 c hc) hu hA
    · exact h4 x hx
theorem PM.ext {w : World} {B g m : Nat} {u : Value} {F F' : Cd → List A2} (h : PM w B g m u F) (e : ∀ x : Cd, x.ok = true → F x = F' x) : PM w B g m u F' := by
  obtain ⟨V, h1, h2, h3, h4, h5⟩ := h
  exact ⟨V, h1, fun x hx => by rw [← e x hx]; exact h2 x hx, h3, h4, h5⟩
theorem by3_step {l : List Cd} {P : List A2} {k : Nat} {p : A2} (h : P[k]? = some p) {x : Cd} : (if same x (th l p) = true then by3 l (P.take k) (th l p) ++ [p] else by3 l (P.take k) x) = by3 l (P.take (k + 1)) x := by
  rw [take_snoc h]
  unfold by3
  rw [List.filter_append]
  cases hs : same x (th l p)
  · have hs2 : same (th l p) x = false := by rw [Bool.eq_false_iff] at hs ⊢; intro e; exact hs (same_iff.2 (same_iff.1 e).symm)
    simp [hs2]
  · have e := same_iff.1 hs
    rw [if_pos rfl, ← e]
    have : same (th l p) x = true := same_iff.2 e.symm
    simp [this]

set_option maxRecDepth 100000 in
set_option maxHeartbeats 8000000 in
theorem pairs_by (l : List Cd) (p : Option Addr) (n cp : Nat) (w : World) (hn : l.length = n) (hl : n ≤ 1000) (hr : Rd w p (flat l)) (hok : l.all Cd.ok = true) :
    Calls Try.prog 73 #[.slice p n cp] w fun e w' => ∃ g m, e = .returned (.map (some g)) ∧ PM w' (g + 1) g m nilv (by3 l (pAll n)) ∧ w.heap.size ≤ g ∧ Below w.heap.size w w' := by
  have HN := Lib.hid hn
  have HR0 := Lib.hid hr
  have HK := Lib.hid hok
  have HPP := Lib.hid (fun w => place_pairs n w hl)
  have HM0 := Lib.hid (MapV.made w)
  have HB0 : Hid (Below w.heap.size w (w.alloc (.map #[] 0))) := Lib.hid ((Below.refl _ _).alloc (Nat.le_refl _) _)
  have HPl : Hid ((pAll n).length ≤ 1000000) := Lib.hid (by have h1 := pAll_len n; have h2 : n * n ≤ 1000 * 1000 := Nat.mul_le_mul hl hl; omega)
  have HPm := Lib.hid (fun q hq => (pAll_mem (p := q) (m := n)).1 hq)
  have hmm := @run_makeMap Try.prog
  clear hn hr hok
  generalize pAll n = P at *
  go_enter Try.func73, Try.ntmps73
  go_upto_region 2 with fail
  generalize w.alloc (.map #[] 0) = W at *
  obtain ⟨g, hg⟩ : ∃ g, w.heap.size = g := ⟨_, rfl⟩
  have HGe := Lib.hid hg
  have HGz := Lib.hid HM0.out.lt
  rw [hg] at HM0 HGz
  try rw [hg]
  go_wp2_with fail
  refine (HPP.out _).mono ?_
  rintro e w3 ⟨u, rfl, hu, b⟩
  have HB := Lib.hid (chain0 HB0.out b)
  have HU := Lib.hid (OwnA2.base hu (show g + 1 ≤ W.heap.size from HGz.out))
  have HM : Hid (PM w3 (g + 1) g 0 u (by3 l (P.take 0))) := Lib.hid (PM.ext (PM.below ⟨_, HM0.out, fun x _ => ⟨rfl, .inl ⟨rfl, rfl⟩⟩, fun _ _ _ _ _ => ap_nil, fun _ _ => ap_nil, Nat.lt_succ_self g⟩ b) (fun x _ => rfl))
  obtain ⟨pu, cu, rfl, _, _, _⟩ := hu.form
  clear hu b HM0 HB0 hg
  obtain ⟨np, hnp⟩ : ∃ np, P.length = np := ⟨_, rfl⟩
  have HNp := Lib.hid hnp
  rw [hnp] at HPl HU HM ⊢
  clear hnp
  go_wp2_with fail
  go_loopw [5, 6, 12] (fun _ _ i wr => ∃ k : Nat, k ≤ np ∧ i = .int .i64 k ∧ Hid (PM wr (g + 1) g k (.slice pu np cu) (by3 l (P.take k))) ∧ Hid (OwnA2 wr (g + 1) (.slice pu np cu) P) ∧ Hid (Below w.heap.size w wr)) (fun _ _ i _ => np - (intOf i).toNat)
  case atStart => exact ⟨0, Nat.zero_le _, rfl, HM, HU, HB⟩
  case round =>
    clear HM HU HB
    obtain ⟨k, hk, rfl, HM, HU, HB⟩ := hrel
    have m0 : (0 : Int) ≤ (k : Int) := by omega
    have hmm := HPl.out
    by_cases hlt : k < np
    · have m1 : (k : Int) < (np : Int) := by omega
      obtain ⟨bu, ou, a, rfl, hbu, ha, c0, c1⟩ := HU.out.rd.aA2 (k := k) (by rw [HNp.out]; exact hlt)
      obtain ⟨i, j, hij, hjn, rfl⟩ := HPm.out a (List.mem_of_getElem? ha)
      have HSt := Lib.hid (fun x => by3_step (l := l) ha (x := x))
      have HLn := Lib.hid (show ∀ x, (by3 l (P.take k) x).length ≤ 1000000 from fun x => by
        unfold by3
        exact Nat.le_trans (List.length_filter_le _ _) (by rw [List.length_take]; omega))
      have HT := Lib.hid (fun w h => third_at l p n cp i j w HN.out h HK.out (by omega) hjn)
      have hc := th_ok l ⟨(i : Int), (j : Int)⟩
      obtain ⟨c, hce⟩ : ∃ c, th l ⟨(i : Int), (j : Int)⟩ = c := ⟨_, rfl⟩
      rw [hce] at HT hc HSt
      have HC := Lib.hid hc
      clear ha hce hc
      go_upto_region 5 with fail
      have K5 : Hid (VB (wr.alloc (A2.mk i j).obj) wr.heap.size 79 #[.int .i64 i, .int .i64 j]) := Lib.hid (VB.newAt rfl rfl)
      have b : Below wr.heap.size wr (wr.alloc (A2.mk i j).obj) := (Below.refl _ _).alloc (Nat.le_refl _) _
      clear c0 c1
      generalize wr.alloc (A2.mk i j).obj = w4 at *
      have Sw4 := Lib.hid b.size
      have HB := Lib.hid (chain0 (w := w) (by repeat (first | with_reducible exact Below.refl _ _ | with_reducible exact HB.out | with_reducible apply Below.drew | with_reducible apply bdN | with_reducible refine Below.alloc ?_ (by first | exact Nat.le_refl _ | with_reducible exact HB.out.size | omega | (simp; done) | (simp; omega) | (have := HB.out.size; simp at *; omega)) _ | with_reducible refine Below.setCell ?_ (by first | exact Nat.le_refl _ | with_reducible exact HB.out.size | omega | (simp; done) | (simp; omega) | (have := HB.out.size; simp at *; omega)) _)) b)
      have HM := Lib.hid (PM.below (by repeat (first | with_reducible exact HM.out | with_reducible apply PM.drewN | with_reducible apply PM.drew | with_reducible apply PM.alloc)) b)
      have HU := Lib.hid (OwnA2.below (by repeat (first | with_reducible exact HU.out | with_reducible apply OwnA2.drewN | with_reducible apply OwnA2.drew | with_reducible apply OwnA2.alloc)) b)
      clear b
      obtain ⟨g5, hg5⟩ : ∃ g5, wr.heap.size = g5 := ⟨_, rfl⟩
      rw [hg5] at K5
      try rw [hg5]
      clear hg5
      have d0 := VB.at_ K5.out (j := 0) rfl
      have d1 := VB.at_ K5.out (j := 1) rfl
      go_wp2_with fail
      refine ((HT.out _ (HR0.out.below HB.out))).mono ?_
      rintro e w5 ⟨rfl, b⟩
      have Sw5 := Lib.hid b.size
      have HB := Lib.hid (chain0 (w := w) (by repeat (first | with_reducible exact Below.refl _ _ | with_reducible exact HB.out | with_reducible apply Below.drew | with_reducible apply bdN | with_reducible refine Below.alloc ?_ (by first | exact Nat.le_refl _ | with_reducible exact HB.out.size | omega | (simp; done) | (simp; omega) | (have := HB.out.size; simp at *; omega)) _ | with_reducible refine Below.setCell ?_ (by first | exact Nat.le_refl _ | with_reducible exact HB.out.size | omega | (simp; done) | (simp; omega) | (have := HB.out.size; simp at *; omega)) _)) b)
      have HM := Lib.hid (PM.below (by repeat (first | with_reducible exact HM.out | with_reducible apply PM.drewN | with_reducible apply PM.drew | with_reducible apply PM.alloc)) b)
      have HU := Lib.hid (OwnA2.below (by repeat (first | with_reducible exact HU.out | with_reducible apply OwnA2.drewN | with_reducible apply OwnA2.drew | with_reducible apply OwnA2.alloc)) b)
      have K5 := Lib.hid (VB.below (by repeat (first | with_reducible exact K5.out | with_reducible apply VB.drewN | with_reducible apply VB.drew | with_reducible apply VB.alloc)) b)
      clear b
      clear d0 d1
      go_upto_region 6 with fail
      obtain ⟨w6, ew, b⟩ : ∃ wOPN : World, wOPN = (w5.alloc c.obj) ∧ Below ((w5.alloc c.obj)).heap.size ((w5.alloc c.obj)) wOPN := ⟨_, rfl, Below.refl _ _⟩
      rw [← ew]
      clear ew
      have Sw6 := Lib.hid b.size
      have HB := Lib.hid (chain0 (w := w) (by repeat (first | with_reducible exact Below.refl _ _ | with_reducible exact HB.out | with_reducible apply Below.drew | with_reducible apply bdN | with_reducible refine Below.alloc ?_ (by first | exact Nat.le_refl _ | with_reducible exact HB.out.size | omega | (simp; done) | (simp; omega) | (have := HB.out.size; simp at *; omega)) _ | with_reducible refine Below.setCell ?_ (by first | exact Nat.le_refl _ | with_reducible exact HB.out.size | omega | (simp; done) | (simp; omega) | (have := HB.out.size; simp at *; omega)) _)) b)
      have HM := Lib.hid (PM.below (by repeat (first | with_reducible exact HM.out | with_reducible apply PM.drewN | with_reducible apply PM.drew | with_reducible apply PM.alloc)) b)
      have HU := Lib.hid (OwnA2.below (by repeat (first | with_reducible exact HU.out | with_reducible apply OwnA2.drewN | with_reducible apply OwnA2.drew | with_reducible apply OwnA2.alloc)) b)
      have K5 := Lib.hid (VB.below (by repeat (first | with_reducible exact K5.out | with_reducible apply VB.drewN | with_reducible apply VB.drew | with_reducible apply VB.alloc)) b)
      have K6 : Hid (Box _ (w5.heap.size) (c)) := Lib.hid (Box.below (by repeat (first | with_reducible exact K6.out | with_reducible apply Box.drewN | with_reducible apply Box.drew | (with_reducible refine Box.newAt ?_ ?_ <;> first | (simp; done) | rfl) | with_reducible apply Box.alloc)) b)
      try clear k6a k6b k6c k6d k6z
      have k6z := K6.out.lt
      obtain ⟨k6a, k6b, k6c, k6d⟩ := K6.out.cell
      clear b
      have d0 := VB.at_ K5.out (j := 0) rfl
      have d1 := VB.at_ K5.out (j := 1) rfl
      obtain ⟨V, v1, v2, v3, v4, v5⟩ := HM.out.alloc (A2.mk i j).obj
      obtain ⟨st, w7, hrun, hg7, hs7, hst⟩ := mapV_entry v1 (by simp only [maxLen]; omega) HC.out
      have HV5 := Lib.hid v5
      have hgl : g < w6.heap.size := HM.out.lt
      have HO7 := Lib.hid (fun x hx => OwnA2.off (v2 x hx) hg7 v5)
      have HV3 := Lib.hid v3
      have HV4 := Lib.hid v4
      have hq7 : w7.heap[w6.heap.size]? = some (A2.mk i j).obj := (hg7.block w6.heap.size (by simp) (fun e => by injection e with e; omega)).trans (heap_alloc_new w6 _)
      have hz7 : w7.heap.size = w6.heap.size + 1 := by rw [hs7]; simp
      have HHs : Hid (∀ (w8 : World) (v1 : Value), w7.grownBy w8 (V c).ownBlock → ∃ w9, (Instr.entryStore 76 (.map (some g)) (goInt st) v1).run Try.prog w8 = .ok () w9 ∧ MapV w9 g (k + 1) (putV V c v1) ∧ w8.grownBy w9 (some g)) := Lib.hid (fun w8 v1 hG => hst w8 v1 (hG.block g (by omega) (fun e => by
        have h1 := ((HO7.out c HC.out).span g e.symm).1
        omega)))
      have HQ7 := Lib.hid hq7
      have HZ7 := Lib.hid hz7
      have HBz := Lib.hid HB.out.size
      have hB7 : Below w6.heap.size w6 w7 ∨ True := .inr trivial
      have HG67 : Hid ((w6.alloc (A2.mk i j).obj).grownBy w7 (some g)) := Lib.hid hg7
      have HUz := Lib.hid (OwnA2.span HU.out)
      have HU7 := Lib.hid (OwnA2.off (OwnA2.alloc HU.out (A2.mk i j).obj) hg7 v5)
      have HB7 : Hid (Below w.heap.size w w7) := Lib.hid (Below.grown (Below.alloc HB.out HB.out.size _) hg7 (by simp; have := HB.out.size; omega) (fun q hq => by injection hq with hq; have := HGe.out; omega))
      have HgB := Lib.hid (show g + 1 ≤ w7.heap.size by omega)
      clear v1 v2 v3 v4 v5 hg7 hs7 hst hq7 hz7 hgl hB7
      go_upto_region 7 with (first | ((with_reducible refine take_entry rfl _ _ rfl ?_ ?_ hrun ?_); rfl; rfl) | (at_builtin; refine append_A2_in rfl (.tmp 21) (.tmp 23) rfl (g + 1) (V c) (by3 l (P.take k) c) ⟨(i : Int), (j : Int)⟩ w7 _ HQ7.out rfl rfl (HO7.out c HC.out) (by have := HLn.out c; omega) HgB.out ?_; intro v8 w8 hO8 hB8 hG8 hA8; obtain ⟨w9, hr9, hM9, hg9⟩ := HHs.out w8 v8 hG8) | ((with_reducible refine take_entryStore rfl _ _ _ rfl ?_ ?_ ?_ hr9 ?_); rfl; rfl; rfl))
      have HM9 := Lib.hid (PM.ext (PM.step HC.out hM9 (fun x hx => HO7.out x hx) HV3.out HV4.out HV5.out (fun q hq => by have := (HUz.out q hq).2; have := HZ7.out; omega) hO8 hG8 hA8 hg9) (fun x _ => HSt.out x))
      have HU9 : Hid (OwnA2 w9 (g + 1) (.slice (some ⟨bu, ou, none⟩) np cu) P) := Lib.hid (OwnA2.off (OwnA2.past HU7.out hG8 (HV4.out c HC.out)) hg9 HV5.out)
      have HB9 : Hid (Below w.heap.size w w9) := Lib.hid (Below.grown (Below.grown HB7.out hG8 HB7.out.size (fun q hq => by have h1 := ((HO7.out c HC.out).span q hq).1; have := HGe.out; omega)) hg9 (by have h1 := HB7.out.size; have h2 := hB8.size; omega) (fun q hq => by injection hq with hq; have := HGe.out; omega))
      clear hO8 hB8 hG8 hA8 hr9 hM9 hg9 hrun
      go_wp2_with fail
      go_roundw
      case rel => exact ⟨k + 1, by omega, by go_num, HM9, HU9, HB9⟩
      case measure => simp [intOf]; omega
    · obtain rfl : k = np := by omega
      have HF : Hid (P.take k = P) := Lib.hid (by rw [← HNp.out, List.take_length])
      rw [HF.out] at HM
      obtain ⟨V, v1, v2, v3, v4, v5⟩ := HM.out
      have HR : Hid (PM wr (g + 1) g k nilv (by3 l P)) := Lib.hid ⟨V, v1, v2, v3, fun x hx => Ap.symm ap_nil, v5⟩
      clear v1 v2 v3 v4 v5
      go_wp2_with fail
      go_ret
      exact ⟨g, k, rfl, HR.out, Nat.le_of_eq HGe.out, HB.out⟩
end Go.Proofs.Ytjmlefcmhjodeaa.others
