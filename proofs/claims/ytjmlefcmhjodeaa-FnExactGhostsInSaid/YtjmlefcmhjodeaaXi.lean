/- CountKinds: the program and the model. -/
import Derived.Test.YtjmlefcmhjodeaaXh
namespace Go.Proofs.Ytjmlefcmhjodeaa.others
open Go.RowKit
open cards reg
open deal (TBox TBox.below TBox.newAt TBox.alloc TBox.cell TBox.lt TBox.drewN TBox.drew)
set_option linter.unusedVariables false

abbrev c5 (f : Nat → Int) : Array Value := #[.int .i64 (f 0), .int .i64 (f 1), .int .i64 (f 2), .int .i64 (f 3), .int .i64 (f 4)]
abbrev zero5 : Nat → Int := fun _ => 0
def upd (f : Nat → Int) (j : Nat) (v : Int) : Nat → Int := fun i => if i = j then v else f i
theorem c5_at (f : Nat → Int) {j : Nat} (h : j < 5) : (c5 f)[j]? = some (.int .i64 (f j)) := by
  rcases (show j = 0 ∨ j = 1 ∨ j = 2 ∨ j = 3 ∨ j = 4 by omega) with rfl | rfl | rfl | rfl | rfl <;> rfl
theorem c5_set (f : Nat → Int) {j : Nat} (h : j < 5) (v : Int) : (c5 f).set! j (.int .i64 v) = c5 (upd f j v) := by
  rcases (show j = 0 ∨ j = 1 ∨ j = 2 ∨ j = 3 ∨ j = 4 by omega) with rfl | rfl | rfl | rfl | rfl <;> rfl
theorem c5_info : ((Try.prog).info? 37).map (·.size) = some 5 := by kernel_rfl
theorem c5_one (f : Nat → Int) : (c5 f).all (·.oneCell') = true := by simp [Value.oneCell']
theorem store5 {ops : Array Oper} {rest : List Oper} {o : Oper} {a : Act} {w : World} {Q : Exit → Act → World → Prop} (hgd : o.guard = none) (x y : Operand) (ho : o.op = .store 37 x y) {g : Nat} {f0 : Nat → Int} (h : VB w g 37 (c5 f0)) (hx : a.eval x = .pointer (some ⟨g, 0, none⟩))
    (f : Nat → Int) (hy : a.eval y = .agg (c5 f)) (hk : ∀ w', VB w' g 37 (c5 f) → w.grownBy w' (some g) → wpList Try.prog ops Q rest (a.put o.dst undef) w') : wpList Try.prog ops Q (o :: rest) a w :=
  store_vb hgd 37 x y ho h c5_info hx (c5 f) rfl (c5_one f) hy hk
theorem take5 {ops : Array Oper} {rest : List Oper} {o : Oper} {a : Act} {w : World} {Q : Exit → Act → World → Prop} (hgd : o.guard = none) (x : Operand) (ho : o.op = .load 37 x) {g : Nat} {f : Nat → Int} (h : VB w g 37 (c5 f)) (hx : a.eval x = .pointer (some ⟨g, 0, none⟩))
    (hk : wpList Try.prog ops Q rest (a.put o.dst (.agg (c5 f))) w) : wpList Try.prog ops Q (o :: rest) a w :=
  take_vb hgd 37 x ho h Try.underlying37 c5_info hx hk
theorem exec_index5 {N : Nat} (hN : N < 5) {a : Act} {o : Oper} {p q : Operand} (ho : o.op = .indexAddr 37 p q) {g : Nat} (hp : a.eval p = .pointer (some ⟨g, 0, none⟩)) (hq : a.eval q = .int .i64 N) (w : World) :
    (execOp a.eval o).run Try.prog w = .ok (.value (.pointer (some ⟨g, N, none⟩))) w := by
  have h0 : (0 : Int) ≤ (N : Int) := by omega
  have h1 : (N : Int) < 5 := by omega
  unfold execOp
  rw [ho]
  simp only [hp, hq]
  go_simp
theorem exec_indexL {k n : Nat} (hk : k < n) {a : Act} {o : Oper} {p q : Operand} (ho : o.op = .indexAddr 41 p q) {b off cp : Nat} (hp : a.eval p = .slice (some ⟨b, off, none⟩) n cp) (hq : a.eval q = .int .i64 k) (w : World) :
    (execOp a.eval o).run Try.prog w = .ok (.value (.pointer (some ⟨b, off + k * 3, none⟩))) w := by
  have h0 : (0 : Int) ≤ (k : Int) := by omega
  have h1 : (k : Int) < (n : Int) := by omega
  unfold execOp
  rw [ho]
  simp only [hp, hq]
  go_simp
theorem exec_index3o {N : Nat} (hN : N < 3) {a : Act} {o : Oper} {p q : Operand} (ho : o.op = .indexAddr 66 p q) {g off : Nat} (hp : a.eval p = .pointer (some ⟨g, off, none⟩)) (hq : a.eval q = .int .i64 N) (w : World) :
    (execOp a.eval o).run Try.prog w = .ok (.value (.pointer (some ⟨g, off + N, none⟩))) w := by
  have h0 : (0 : Int) ≤ (N : Int) := by omega
  have h1 : (N : Int) < 3 := by omega
  unfold execOp
  rw [ho]
  simp only [hp, hq]
  go_simp
/-- How many of the first k have each kind. -/
def kcnt (K : A3 → Nat) (L : List A3) : Nat → Nat → Int
  | 0 => zero5
  | k + 1 => match L[k]? with
    | some a => upd (kcnt K L k) (K a) (kcnt K L k (K a) + 1)
    | none => kcnt K L k
theorem kcnt_step {K : A3 → Nat} {L : List A3} {k : Nat} {a : A3} (h : L[k]? = some a) : kcnt K L (k + 1) = upd (kcnt K L k) (K a) (kcnt K L k (K a) + 1) := by
  simp only [kcnt, h]
theorem kcnt_bd (K : A3 → Nat) (L : List A3) : ∀ (k i : Nat), 0 ≤ kcnt K L k i ∧ kcnt K L k i ≤ k
  | 0, i => ⟨Int.le_refl _, Int.le_refl _⟩
  | k + 1, i => by
    have ih := kcnt_bd K L k
    cases h : L[k]? with
    | none =>
      have e : kcnt K L (k + 1) = kcnt K L k := by simp only [kcnt, h]
      rw [e]; have := ih i; omega
    | some a =>
      rw [kcnt_step h]
      unfold upd
      split
      · have := ih (K a); omega
      · have := ih i; omega
theorem OwnA3.off {w w1 : World} {B g : Nat} {v : Value} {l : List A3} (h : OwnA3 w B v l) (hg : w.grownBy w1 (some g)) (hB : g < B) : OwnA3 w1 B v l :=
  World.ownsRow.kept h hg (by
    cases hv : v.ownBlock with
    | none => exact .inl rfl
    | some q => exact .inr (fun e => by injection e with e; have := (World.ownsRow.lt h q hv).1; omega))
theorem linR_few (l : List Cd) : (linR l).1.length ≤ 1000 := by
  unfold linR
  split
  · rename_i h
    have h1 := (handB_true.1 h).1
    have h2 := allL_len l l.length
    have h3 : l.length * l.length ≤ 27 * 27 := Nat.mul_le_mul h1 h1
    show (allL l l.length).length ≤ _
    omega
  · simp
noncomputable def ckR (l : List Cd) : (Nat → Int) × Bool := (kcnt (kindL l) (linR l).1 (linR l).1.length, (linR l).2)
/-- Each line of the list that is handed on. -/
theorem linR_parts {l : List Cd} {a : A3} (ha : a ∈ (linR l).1) : isHand l ∧ ∃ (i j k : Nat) (x y z : Cd), a = ⟨i, j, k⟩ ∧ i < l.length ∧ j < l.length ∧ k < l.length ∧ l[i]? = some x ∧ l[j]? = some y ∧ l[k]? = some z ∧ line x y z = true := by
  unfold linR at ha
  split at ha
  · rename_i h
    have hh := handB_true.1 h
    exact ⟨hh, line_parts rfl hh.2.2 hh.2.1 ha⟩
  · simp at ha

set_option maxRecDepth 100000 in
set_option maxHeartbeats 4000000 in
theorem impl_ck (l : List Cd) (p : Option Addr) (n cp : Nat) (w : World) (hn : l.length = n) (hl : n ≤ 1000000000) (hr : Rd w p (flat l)) :
    Calls Try.prog 27 #[.slice p n cp] w fun e w' => e = .returned (.tuple #[.agg (c5 (ckR l).1), .bool (ckR l).2]) ∧ Below w.heap.size w w' := by
  have HLi := Lib.hid (fun w h => impl_lin l p n cp w hn hl h)
  have HLn := Lib.hid (linR_few l)
  have HP := Lib.hid (fun a ha => linR_parts (l := l) (a := a) ha)
  have HT := Lib.hid (show ckR l = (kcnt (kindL l) (linR l).1 (linR l).1.length, (linR l).2) from rfl)
  have HN := Lib.hid hn
  have HR0 := Lib.hid hr
  clear hn hr
  have K1 : Hid (VB (w.alloc (.cells (c5 zero5) 37)) w.heap.size 37 (c5 zero5)) := Lib.hid (VB.newAt rfl rfl)
  have HB : Hid (Below w.heap.size w (w.alloc (.cells (c5 zero5) 37))) := Lib.hid ((Below.refl _ _).alloc (Nat.le_refl _) _)
  generalize ckR l = cr at *
  obtain ⟨cr1, cr2⟩ := cr
  generalize linR l = lr at *
  obtain ⟨L, ok⟩ := lr
  dsimp only at HLi HLn HP HT ⊢
  obtain ⟨m, hm⟩ : ∃ m, L.length = m := ⟨_, rfl⟩
  have HMm := Lib.hid hm
  rw [hm] at HLn HT
  clear hm
  go_enter Try.func27, Try.ntmps27
  go_upto_region 1 with fail
  generalize w.alloc (.cells (c5 zero5) 37) = W at *
  have K2 : Hid (VB (W.alloc (.cells (c5 zero5) 37)) W.heap.size 37 (c5 zero5)) := Lib.hid (VB.newAt rfl rfl)
  have k1z := K1.out.lt
  have K1x := Lib.hid (K1.out.alloc (.cells (c5 zero5) 37))
  have HB0 := Lib.hid HB.out
  clear K1 HB
  go_upto_region 2 with ((with_reducible refine store5 rfl _ _ rfl K2.out ?_ zero5 ?_ ?_); rfl; rfl; intro w2 hM hG)
  have K1 := Lib.hid (VB.marked K1x.out hG (fun e => by injection e with e; omega))
  have b : Below W.heap.size W w2 := Below.grown ((Below.refl _ _).alloc (Nat.le_refl _) _) hG (by simp) (fun k hk => by injection hk with hk; omega)
  have HB := Lib.hid (chain0 HB0.out b)
  have hgz := hM.lt
  have HR2 := Lib.hid (HR0.out.below HB.out)
  have K2 := Lib.hid hM
  obtain ⟨g, hg⟩ : ∃ g, W.heap.size = g := ⟨_, rfl⟩
  rw [hg] at K2 hgz k1z
  try rw [hg]
  clear hg hM hG b K1x
  have HGz := Lib.hid hgz
  go_wp2_with fail
  refine (HLi.out _ (by repeat (first | with_reducible exact HR2.out | with_reducible apply Rd.drewN | with_reducible apply Rd.drew | with_reducible apply Rd.alloc))).mono ?_
  rintro e w3 ⟨u, rfl, hu, b⟩
  have Sw3 := Lib.hid b.size
  have HB := Lib.hid (chain0 (w := w) (by repeat (first | with_reducible exact Below.refl _ _ | with_reducible exact HB.out | with_reducible apply Below.drew | with_reducible apply bdN | with_reducible refine Below.alloc ?_ (by first | exact Nat.le_refl _ | with_reducible exact HB.out.size | omega | (simp; done) | (simp; omega) | (have := HB.out.size; simp at *; omega)) _ | with_reducible refine Below.setCell ?_ (by first | exact Nat.le_refl _ | with_reducible exact HB.out.size | omega | (simp; done) | (simp; omega) | (have := HB.out.size; simp at *; omega)) _)) b)
  have K1 := Lib.hid (VB.below (by repeat (first | with_reducible exact K1.out | with_reducible apply VB.drewN | with_reducible apply VB.drew | with_reducible apply VB.alloc)) b)
  have K2 := Lib.hid (VB.below (by repeat (first | with_reducible exact K2.out | with_reducible apply VB.drewN | with_reducible apply VB.drew | with_reducible apply VB.alloc)) b)
  have HR2 := Lib.hid (Rd.below (by repeat (first | with_reducible exact HR2.out | with_reducible apply Rd.drewN | with_reducible apply Rd.drew | with_reducible apply Rd.alloc)) b)
  clear b
  obtain ⟨pu, cu, rfl, hcu, _, _⟩ := hu.form
  rw [HMm.out] at hu hcu ⊢
  have HO3 := Lib.hid hu
  clear hu
  go_wp2_with fail
  have HG3 : Hid (w3.grownBy w3 (some g)) := Lib.hid (World.grownBy.refl _ _)
  go_loopw [8, 17] (fun _ i wr => ∃ k : Nat, k ≤ m ∧ i = .int .i64 k ∧ Hid (VB wr g 37 (c5 (kcnt (kindL l) L k))) ∧ Hid (VB wr w.heap.size 37 (c5 zero5)) ∧ Hid (Below w.heap.size w wr) ∧ Hid (w3.grownBy wr (some g))) (fun _ i _ => m - (intOf i).toNat)
  case atStart => exact ⟨0, Nat.zero_le _, rfl, K2, K1, HB, HG3⟩
  case round =>
    clear K1 K2 HB HG3 HR2
    obtain ⟨k, hk, rfl, K2, K1, HB, HG⟩ := hrel
    have m0 : (0 : Int) ≤ (k : Int) := by omega
    by_cases hlt : k < m
    · have HOr := Lib.hid (OwnA3.off HO3.out HG.out HGz.out)
      obtain ⟨bu, ou, a, rfl, hbu, ha, c0, c1, c2⟩ := HOr.out.rd.aA3 (k := k) (by rw [HMm.out]; exact hlt)
      obtain ⟨hh, i, j, q, x, y, z, rfl, hi, hj, hq, hx, hy, hz, hli⟩ := HP.out a (List.mem_of_getElem? ha)
      have hdb := line_dif hli
      obtain ⟨d, hd⟩ : ∃ d : Nat, dif x y = (d : Int) := ⟨(dif x y).toNat, by omega⟩
      have hd5 : d < 5 := by omega
      have HS := Lib.hid (show kcnt (kindL l) L (k + 1) = upd (kcnt (kindL l) L k) d (kcnt (kindL l) L k d + 1) by rw [kcnt_step ha, kindL_at hx hy, hd, Int.toNat_natCast])
      obtain ⟨f0, f1⟩ := kcnt_bd (kindL l) L k d
      have HKA := Lib.hid (fun w h => kind_at l p n cp i j q x y z w HN.out (by have := hh.1; have := HN.out; omega) h hh.2.1 hx hy hz hli)
      rw [hd] at HKA
      have hmm := HLn.out
      have f2 : kcnt (kindL l) L k d ≤ 1000000 := by have := HLn.out; omega
      generalize kcnt (kindL l) L k = f at *
      clear hh hi hj hq hx hy hz hli ha hdb hd f1
      have m1 : (k : Int) < (m : Int) := by omega
      go_wp2_with fail
      refine (HKA.out _ (HR0.out.below (HB.out.alloc HB.out.size _))).mono ?_
      rintro e w5 ⟨rfl, b⟩
      have HG5 : Hid (w3.grownBy w5 (some g)) := Lib.hid ((HG.out.trans (World.grownBy_alloc _ _ _)).trans (BI.gs g b))
      have Sw5 := Lib.hid b.size
      have HB := Lib.hid (chain0 (w := w) (by repeat (first | with_reducible exact Below.refl _ _ | with_reducible exact HB.out | with_reducible apply Below.drew | with_reducible apply bdN | with_reducible refine Below.alloc ?_ (by first | exact Nat.le_refl _ | with_reducible exact HB.out.size | omega | (simp; done) | (simp; omega) | (have := HB.out.size; simp at *; omega)) _ | with_reducible refine Below.setCell ?_ (by first | exact Nat.le_refl _ | with_reducible exact HB.out.size | omega | (simp; done) | (simp; omega) | (have := HB.out.size; simp at *; omega)) _)) b)
      have K1 := Lib.hid (VB.below (by repeat (first | with_reducible exact K1.out | with_reducible apply VB.drewN | with_reducible apply VB.drew | with_reducible apply VB.alloc)) b)
      have K2 := Lib.hid (VB.below (by repeat (first | with_reducible exact K2.out | with_reducible apply VB.drewN | with_reducible apply VB.drew | with_reducible apply VB.alloc)) b)
      have K4 : Hid (TBox _ (wr.heap.size) (⟨(i : Int), (j : Int), (q : Int)⟩)) := Lib.hid (TBox.below (by repeat (first | with_reducible exact K4.out | with_reducible apply TBox.drewN | with_reducible apply TBox.drew | (with_reducible refine TBox.newAt ?_ ?_ <;> first | (simp; done) | rfl) | with_reducible apply TBox.alloc)) b)
      try clear k4a k4b k4c k4d k4z
      have k4z := K4.out.lt
      obtain ⟨k4a, k4b, k4c, k4d⟩ := K4.out.cell
      clear b
      have e0 := VB.at_ K2.out (c5_at f hd5)
      have ef := VB.frozen K2.out d
      have n0 : (0 : Int) ≤ (d : Int) := by omega
      have n1 : (d : Int) < 5 := by omega
      have K2 := Lib.hid (VB.set_ K2.out (c5_set f hd5 (f d + 1)))
      have K1 := Lib.hid (VB.far K1.out (p := ⟨g, d, none⟩) (by simp only; have := HGz.out; omega) (.int .i64 (f d + 1)))
      have HB := Lib.hid (Below.setCell HB.out (p := ⟨g, d, none⟩) (by simp only; omega) (.int .i64 (f d + 1)))
      have HG := Lib.hid (World.grownBy.trans HG5.out (grown_setV w5 g d (.int .i64 (f d + 1))))
      rw [← HS.out] at K2
      go_wp2_with fail
      go_roundw
      case rel => exact ⟨k + 1, by omega, by go_num, K2, K1, HB, HG⟩
      case measure => simp [intOf]; omega
    · obtain rfl : k = m := by omega
      go_wp2_with (first | ((with_reducible refine take5 rfl _ rfl K2.out ?_ ?_); rfl) | ((with_reducible refine store5 rfl _ _ rfl K1.out ?_ (kcnt (kindL l) L k) ?_ ?_); rfl; rfl; intro w7 hM hG))
      try simp only [Exit.inBlock, Exit.then]
      refine bodyPost_ret (res_vb2 Try.results27 rfl hM Try.underlying37 c5_info) rfl ?_
      exact ⟨by injection HT.out with h1 h2; rw [h1, h2]; rfl, HB.out.grown hG HB.out.size (fun k hk => by injection hk with hk; omega)⟩
end Go.Proofs.Ytjmlefcmhjodeaa.others
