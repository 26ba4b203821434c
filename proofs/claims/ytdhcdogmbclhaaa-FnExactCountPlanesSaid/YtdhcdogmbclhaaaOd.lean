/- SplitBy, the program's and the model's: how many cards have each value by a weight. -/
import Derived.Test.YtdhcdogmbclhaaaOb
import Derived.Test.YtdhcdogmbclhaaaIh
import Derived.Test.YtdhcdogmbclhaaaVx
import Derived.Deep.DeepCutAuto
import Derived.Outline
namespace Go.Proofs.Ytdhcdogmbclhaaa.planes
open Go.RowKit
open cards reg
set_option linter.unusedVariables false

/-- The value as a place, and how many of the first k cards have each value. -/
def valN (x y : Cd) : Nat := (val x y).toNat
theorem valN_lt (x y : Cd) : valN x y < 3 := by have := val_bd x y; unfold valN; omega
theorem valN_val (x y : Cd) : val x y = (valN x y : Int) := by have := val_bd x y; unfold valN; omega
abbrev q3 (f : Nat → Int) : Array Value := #[.int .i64 (f 0), .int .i64 (f 1), .int .i64 (f 2)]
abbrev z3 : Nat → Int := fun _ => 0
def up3 (f : Nat → Int) (j : Nat) : Nat → Int := fun i => if i = j then f j + 1 else f i
def splitF (y : Cd) (l : List Cd) : Nat → Int := l.foldl (fun f x => up3 f (valN x y)) z3
theorem q3_at (f : Nat → Int) {j : Nat} (h : j < 3) : (q3 f)[j]? = some (.int .i64 (f j)) := by
  rcases (show j = 0 ∨ j = 1 ∨ j = 2 by omega) with rfl | rfl | rfl <;> rfl
theorem q3_set (f : Nat → Int) {j : Nat} (h : j < 3) : (q3 f).set! j (.int .i64 (f j + 1)) = q3 (up3 f j) := by
  rcases (show j = 0 ∨ j = 1 ∨ j = 2 by omega) with rfl | rfl | rfl <;> rfl
theorem split_snoc {y x : Cd} {l : List Cd} {k : Nat} (hx : l[k]? = some x) : splitF y (l.take (k + 1)) = up3 (splitF y (l.take k)) (valN x y) := by
  unfold splitF
  rw [take_snoc hx, List.foldl_append]
  rfl
theorem split_bd (y : Cd) (l : List Cd) : ∀ (f : Nat → Int) (j : Nat), f j ≤ (l.foldl (fun f x => up3 f (valN x y)) f) j ∧ (l.foldl (fun f x => up3 f (valN x y)) f) j ≤ f j + l.length := by
  induction l with
  | nil => intro f j; simp
  | cons x r ih =>
    intro f j
    have h := ih (up3 f (valN x y)) j
    have h2 : f j ≤ up3 f (valN x y) j ∧ up3 f (valN x y) j ≤ f j + 1 := by unfold up3; split <;> (try subst_vars) <;> omega
    simp only [List.foldl_cons, List.length_cons]
    omega
theorem splitF_bd (y : Cd) (l : List Cd) (k j : Nat) : 0 ≤ splitF y (l.take k) j ∧ splitF y (l.take k) j ≤ k := by
  have h := split_bd y (l.take k) z3 j
  have h2 : (l.take k).length ≤ k := by simp; omega
  have e : z3 j = 0 := rfl
  unfold splitF
  omega

theorem q3_size (f : Nat → Int) : ((Try.prog).info? 46).map (·.size) = some (q3 f).size := by kernel_rfl
theorem take_q3 {ops : Array Oper} {rest : List Oper} {o : Oper} {a : Act} {w : World} {Q : Exit → Act → World → Prop} (hgd : o.guard = none) (x : Operand) (ho : o.op = .load 46 x) {g : Nat} {f : Nat → Int} (h : VB w g 46 (q3 f)) (hx : a.eval x = .pointer (some ⟨g, 0, none⟩))
    (hk : wpList Try.prog ops Q rest (a.put o.dst (.agg (q3 f))) w) : wpList Try.prog ops Q (o :: rest) a w := take_vb hgd 46 x ho h Try.underlying46 (q3_size f) hx hk
theorem store_q3 {ops : Array Oper} {rest : List Oper} {o : Oper} {a : Act} {w : World} {Q : Exit → Act → World → Prop} (hgd : o.guard = none) (x y : Operand) (ho : o.op = .store 46 x y) {g : Nat} {z : Nat → Int} (h : VB w g 46 (q3 z)) (hx : a.eval x = .pointer (some ⟨g, 0, none⟩))
    (f : Nat → Int) (hy : a.eval y = .agg (q3 f)) (hk : ∀ w', VB w' g 46 (q3 f) → w.grownBy w' (some g) → wpList Try.prog ops Q rest (a.put o.dst undef) w') : wpList Try.prog ops Q (o :: rest) a w :=
  store_vb hgd 46 x y ho h (q3_size z) hx (q3 f) rfl (by simp [Value.oneCell']) hy hk
theorem res_q3 {fn : Func} {i : Tmp} (hf : fn.results = #[.cell i 46]) {tmps : Array Value} {w : World} {g : Nat} {f : Nat → Int} (ht : tmps.getD i undef = .pointer (some ⟨g, 0, none⟩)) (h : VB w g 46 (q3 f)) :
    (results fn tmps).run Try.prog w = .ok (.agg (q3 f)) w := res_vb hf ht h Try.underlying46 (q3_size f)
theorem res_q32 {fn : Func} {i u : Tmp} (hf : fn.results = #[.cell i 46, .tmp u]) {tmps : Array Value} {w : World} {g : Nat} {f : Nat → Int} (ht : tmps.getD i undef = .pointer (some ⟨g, 0, none⟩)) (h : VB w g 46 (q3 f)) :
    (results fn tmps).run Try.prog w = .ok (.tuple #[.agg (q3 f), tmps.getD u undef]) w := res_vb2 hf ht h Try.underlying46 (q3_size f)

set_option maxRecDepth 100000 in
set_option maxHeartbeats 4000000 in
theorem split_by (l : List Cd) (y : Cd) (p : Option Addr) (n cp : Nat) (w : World) (hn : l.length = n) (hl : n ≤ 1000) (hr : Rd w p (flat l)) (hok : l.all Cd.ok = true) (hy : y.ok = true) :
    Calls Try.prog 69 #[.slice p n cp, y.val] w fun e w' => e = .returned (.agg (q3 (splitF y l))) ∧ Below w.heap.size w w' := by
  have HN := Lib.hid hn
  have HR0 := Lib.hid hr
  have HK := Lib.hid hok
  have HV := Lib.hid (fun x hx w => value_by x y w hx hy)
  have K0 : Hid (Box ((w.alloc y.obj).alloc (.cells (q3 z3) 46)) w.heap.size y) := Lib.hid ((Box.newAt rfl rfl).alloc _)
  have K1 : Hid (VB ((w.alloc y.obj).alloc (.cells (q3 z3) 46)) (w.heap.size + 1) 46 (q3 z3)) := Lib.hid (VB.newAt (by simp) rfl)
  have HB : Hid (Below w.heap.size w ((w.alloc y.obj).alloc (.cells (q3 z3) 46))) := Lib.hid (((Below.refl _ _).alloc (Nat.le_refl _) _).alloc (by simp) _)
  clear hn hr hok hy
  go_enter Try.func69, Try.ntmps69
  go_upto_region 1 with fail
  generalize (w.alloc y.obj).alloc (.cells (q3 z3) 46) = W at *
  have K2 : Hid (VB (W.alloc (.cells (q3 z3) 46)) W.heap.size 46 (q3 z3)) := Lib.hid (VB.newAt rfl rfl)
  have k1z := K1.out.lt
  have K0x := Lib.hid (K0.out.alloc (.cells (q3 z3) 46))
  have K1x := Lib.hid (K1.out.alloc (.cells (q3 z3) 46))
  have HBx := Lib.hid (HB.out.alloc HB.out.size (.cells (q3 z3) 46))
  have hW := HB.out.size
  clear K0 K1 HB
  obtain ⟨g, hg⟩ : ∃ g, W.heap.size = g := ⟨_, rfl⟩
  have HG := Lib.hid hg
  rw [hg] at K2 k1z
  clear hg
  go_upto_region 2 with fail
  have K0 := K0x
  have K1 := K1x
  have HB := HBx
  clear K0x K1x HBx
  generalize W.alloc (.cells (q3 z3) 46) = W2 at *
  try rw [HG.out]
  go_wp2_with fail
  go_loopw [7, 11] (fun _ i wr => ∃ k : Nat, k ≤ n ∧ i = .int .i64 k ∧ Hid (VB wr g 46 (q3 (splitF y (l.take k)))) ∧ Hid (Below w.heap.size w wr) ∧ Hid (Box wr w.heap.size y) ∧ Hid (VB wr (w.heap.size + 1) 46 (q3 z3))) (fun _ i _ => n - (intOf i).toNat)
  case atStart => exact ⟨0, Nat.zero_le _, rfl, K2, HB, K0, K1⟩
  case round =>
    clear K0 K1 K2 HB
    obtain ⟨k, hk, rfl, K2, HB, K0, K1⟩ := hrel
    by_cases hlt : k < n
    · have HR := Lib.hid (HR0.out.below HB.out)
      obtain ⟨b, o, x, rfl, hb, hx, c0, c1, c2, c3⟩ := HR.out.card (k := k) (by rw [HN.out]; exact hlt)
      have HX := Lib.hid (ok_at HK.out hx)
      have HE := Lib.hid (split_snoc (y := y) hx)
      have hbd := splitF_bd y l k (valN x y)
      have HVx := HV.out x HX.out
      rw [valN_val] at HVx
      have hN3 := valN_lt x y
      obtain ⟨f, hf⟩ : ∃ f, splitF y (l.take k) = f := ⟨_, rfl⟩
      obtain ⟨N, hN⟩ : ∃ N, valN x y = N := ⟨_, rfl⟩
      rw [hf] at hbd K2 HE
      rw [hN] at HVx hN3 HE hbd
      clear hf hN
      have HVy := Lib.hid HVx
      clear HVx
      obtain ⟨v, hv⟩ : ∃ v, f N = v := ⟨_, rfl⟩
      have Hv := Lib.hid hv
      have m0 : (0 : Int) ≤ (k : Int) := by omega
      have m1 : (k : Int) < (n : Int) := by omega
      rw [hv] at hbd
      clear hx hv
      have hgz := K2.out.lt
      obtain ⟨k0a, k0b, k0c, k0d⟩ := K0.out.cell
      have k0z := K0.out.lt
      go_wp2_with fail
      refine ((HVy.out _)).mono ?_
      rintro e w5 ⟨rfl, b⟩
      have Sw5 := Lib.hid b.size
      have HB := Lib.hid (chain0 (w := w) (by repeat (first | with_reducible exact Below.refl _ _ | with_reducible exact HB.out | with_reducible apply Below.drew | with_reducible apply bdN | with_reducible refine Below.alloc ?_ (by first | exact Nat.le_refl _ | with_reducible exact HB.out.size | omega | (simp; done) | (simp; omega) | (have := HB.out.size; simp at *; omega)) _ | with_reducible refine Below.setCell ?_ (by first | exact Nat.le_refl _ | with_reducible exact HB.out.size | omega | (simp; done) | (simp; omega) | (have := HB.out.size; simp at *; omega)) _)) b)
      have K2 := Lib.hid (VB.below (by repeat (first | with_reducible exact K2.out | with_reducible apply VB.drewN | with_reducible apply VB.drew | with_reducible apply VB.alloc)) b)
      have K1 := Lib.hid (VB.below (by repeat (first | with_reducible exact K1.out | with_reducible apply VB.drewN | with_reducible apply VB.drew | with_reducible apply VB.alloc)) b)
      have K3 : Hid (Box _ (wr.heap.size) (x)) := Lib.hid (Box.below (by repeat (first | with_reducible exact K3.out | with_reducible apply Box.drewN | with_reducible apply Box.drew | (with_reducible refine Box.newAt ?_ ?_ <;> first | (simp; done) | rfl) | with_reducible apply Box.alloc)) b)
      have K0 : Hid (Box _ (w.heap.size) (y)) := Lib.hid (Box.below (by repeat (first | with_reducible exact K0.out | with_reducible apply Box.drewN | with_reducible apply Box.drew | (with_reducible refine Box.newAt ?_ ?_ <;> first | (simp; done) | rfl) | with_reducible apply Box.alloc)) b)
      try clear k3a k3b k3c k3d k3z
      have k3z := K3.out.lt
      obtain ⟨k3a, k3b, k3c, k3d⟩ := K3.out.cell
      try clear k0a k0b k0c k0d k0z
      have k0z := K0.out.lt
      obtain ⟨k0a, k0b, k0c, k0d⟩ := K0.out.cell
      clear b
      have hc := K2.out.at_ (q3_at f hN3)
      rw [Hv.out] at hc
      have hf := K2.out.frozen N
      have hS := Lib.hid (K2.out.set_ (cs' := q3 (up3 f N)) (v := .int .i64 (v + 1)) (by rw [← Hv.out]; exact q3_set f hN3))
      rw [← HE.out] at hS
      have n0 : (0 : Int) ≤ (N : Int) := by omega
      have n1 : (N : Int) < 3 := by omega
      go_wp2_with fail
      go_roundw
      case rel => exact ⟨k + 1, by omega, by go_num, hS, Lib.hid (HB.out.setCell (by simp only; omega) _), Lib.hid (K0.out.far (by simp only; omega) _), Lib.hid (K1.out.far (by simp only; omega) _)⟩
      case measure => simp [intOf]; omega
    · obtain rfl : k = n := by omega
      rw [show l.take k = l by rw [← HN.out, List.take_length]] at K2
      go_wp2_with (first | ((with_reducible refine take_q3 rfl _ rfl K2.out ?_ ?_); rfl) | ((with_reducible refine store_q3 rfl _ _ rfl K1.out ?_ (splitF y l) ?_ ?_); rfl; rfl; intro w7 hM hG))
      try simp only [Exit.inBlock, Exit.then]
      refine bodyPost_ret (res_q3 Try.results69 rfl hM) rfl ?_
      exact ⟨rfl, HB.out.grown hG HB.out.size (fun k hk => by injection hk with hk; omega)⟩
end Go.Proofs.Ytdhcdogmbclhaaa.planes
