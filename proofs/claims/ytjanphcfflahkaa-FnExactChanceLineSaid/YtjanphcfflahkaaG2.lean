/- A fraction that is made lowest: the program and the model alike; the number of choices. -/
import Derived.Test.YtjanphcfflahkaaG1
import Derived.Test.YtjanphcfflahkaaIh
import Derived.Test.YtjanphcfflahkaaVy
import Derived.Deep.Cut
namespace Go.Proofs.Ytjanphcfflahkaa.chance
open Go.RowKit
open cards reg
set_option linter.unusedVariables false

/-- A fraction as an array. -/
abbrev fv (p : Int × Int) : Array Value := #[.int .i64 p.1, .int .i64 p.2]
abbrev zv : Array Value := #[.int .i64 0, .int .i64 0]
theorem fv_one (p : Int × Int) : (fv p).all (·.oneCell') = true := by simp [Value.oneCell']
theorem a2_info {cs : Array Value} (h : cs.size = 2) : ((Try.prog).info? 31).map (·.size) = some cs.size := by
  rw [h]; kernel_rfl
theorem gcd_rec (d r : Nat) : Nat.gcd r d = Nat.gcd (d % r) r := Nat.gcd_rec r d
theorem exec_quoV {c d r : Nat} (hr : c / d = r) (hd : 0 < d) (hc : c ≤ 1000000000000000) {a : Act} {o : Oper} {p q : Operand} {s : TypeId} (ho : o.op = .binOp .quo 3 p q s) (hp : a.eval p = .int .i64 c) (hq : a.eval q = .int .i64 d) (w : World) :
    (execOp a.eval o).run Try.prog w = .ok (.value (.int .i64 r)) w := by
  subst hr
  have e := Int.tdiv_eq_ediv_of_nonneg (a := (c : Int)) (b := d) (by omega)
  have hne : ((d : Int) = 0) = False := eq_false (by omega)
  have hle := Nat.div_le_self c d
  unfold execOp
  rw [ho]
  simp only [hp, hq]
  go_simp
  rw [if_neg (by omega)]
  have hw : IntKind.i64.wrap ((c : Int) / d) = (c : Int) / d := by
    have h1 : (c : Int) / d = ((c / d : Nat) : Int) := rfl
    rw [h1]
    clear h1 e
    generalize c / d = q at *
    exact IntWalk.i64_in _ ⟨by omega, by omega⟩
  rw [hw]
theorem exec_remV {c d : Nat} (hd : 0 < d) (hc : d ≤ 1000000000000000) {a : Act} {o : Oper} {p q : Operand} {s : TypeId} (ho : o.op = .binOp .rem 3 p q s) (hp : a.eval p = .int .i64 c) (hq : a.eval q = .int .i64 d) (w : World) :
    (execOp a.eval o).run Try.prog w = .ok (.value (.int .i64 ((c % d : Nat) : Int))) w := by
  have e := Int.tmod_eq_emod_of_nonneg (a := (c : Int)) (b := d) (by omega)
  have hne : ((d : Int) = 0) = False := eq_false (by omega)
  have hle := Nat.mod_lt c hd
  unfold execOp
  rw [ho]
  simp only [hp, hq]
  go_simp
  omega

theorem exec_storeV {T : TypeId} {cs cs2 : Array Value} {w : World} {g : Nat} (h : VB w g T cs) (hi : ((Try.prog).info? T).map (·.size) = some cs.size) (hs : cs2.size = cs.size) (h1 : cs2.all (·.oneCell') = true) {a : Act} {o : Oper} {p q : Operand} (ho : o.op = .store T p q)
    (hp : a.eval p = .pointer (some ⟨g, 0, none⟩)) (hq : a.eval q = .agg cs2) : (execOp a.eval o).run Try.prog w = .ok .skip (w.setCells g 0 cs2.toList) := by
  have hr := run_storeAt_mid (P := Try.prog) w g 0 T cs2 (by rw [hs]; exact h.there) (by rw [hs]; exact hi) h1
  unfold execOp
  rw [ho]
  simp only [hp, hq]
  simp [hr, Result.andThen]
theorem gcd_end {D c a : Nat} (h : Nat.gcd 0 D = Nat.gcd c a) : D = Nat.gcd c a := by rw [← h, Nat.gcd_zero_left]

set_option maxRecDepth 100000 in
set_option maxHeartbeats 2000000 in
theorem fraction_ (c a : Nat) (w : World) (ha : 0 < a) (hc : c ≤ 1000000000000000) (ha2 : a ≤ 1000000000000000) :
    Calls Try.prog 126 #[.int .i64 c, .int .i64 a] w fun e w' => e = .returned (.agg (fv (frac c a))) ∧ Below w.heap.size w w' := by
  obtain ⟨fr, hfr⟩ : ∃ fr, frac c a = fr := ⟨_, rfl⟩
  have HFr := Lib.hid hfr
  rw [hfr]
  clear hfr
  have HB0 : Hid (Below w.heap.size w (w.alloc (.cells zv 31))) := Lib.hid ((Below.refl _ _).alloc (Nat.le_refl _) _)
  have K0 : Hid (VB (w.alloc (.cells zv 31)) w.heap.size 31 zv) := Lib.hid (VB.newAt rfl rfl)
  obtain ⟨A, hA⟩ : ∃ A : Nat, A = a := ⟨a, rfl⟩
  obtain ⟨C, hC⟩ : ∃ C : Nat, C = c := ⟨c, rfl⟩
  have HG : Hid (Nat.gcd C A = Nat.gcd c a) := Lib.hid (by rw [hA, hC])
  have hA0 : 0 < A ∧ A ≤ 1000000000000000 := by omega
  have hC0 : C ≤ 1000000000000000 := by omega
  have HS : Hid ((A : Int) = a ∧ (C : Int) = c) := Lib.hid ⟨by omega, by omega⟩
  go_enter Try.func126, Try.ntmps126
  go_upto_region 2 with fail
  go_loopw [5, 6] (fun d r wr => ∃ D R : Nat, d = .int .i64 D ∧ r = .int .i64 R ∧ 0 < D ∧ D ≤ 1000000000000000 ∧ R ≤ 1000000000000000 ∧ Hid (Nat.gcd R D = Nat.gcd c a) ∧ Hid (Below w.heap.size w wr) ∧ Hid (VB wr w.heap.size 31 zv)) (fun _ r _ => (intOf r).toNat)
  case atStart => exact ⟨a, c, rfl, rfl, by omega, by omega, by omega, Lib.hid rfl, HB0, K0⟩
  case round =>
    clear HB0 K0
    obtain ⟨D, R, rfl, rfl, hD, hD2, hR2, HG, HB, K0⟩ := hrel
    by_cases hlt : 0 < R
    · have m0 : (0 : Int) < (R : Int) := by omega
      have HG2 : Hid (Nat.gcd (D % R) R = Nat.gcd c a) := Lib.hid (by rw [← gcd_rec]; exact HG.out)
      have hmod := Nat.mod_lt D hlt
      have m1 : ¬ R = 0 := by omega
      have m2 : ¬ (R : Int) = 0 := by omega
      go_upto_region 3 with fail
      refine wp_region_quiet_below (by kernel_rfl) (by kernel_rfl) ?_
      repeat (first | go_big_quiet_step ((fail)) | quiet_step ((fail)))
      refine wpQuiet_nil ?_
      intro w3 hw2
      have b : Below wr.heap.size wr w3 := by obtain ⟨r, hr⟩ := hw2; rw [hr]; exact below_regrown _ _ _
      clear hw2
      have Sw3 := Lib.hid b.size
      have HB := Lib.hid (chain0 (w := w) (by repeat (first | with_reducible exact Below.refl _ _ | with_reducible exact HB.out | with_reducible apply Below.drew | with_reducible apply bdN | with_reducible refine Below.alloc ?_ (by first | exact Nat.le_refl _ | with_reducible exact HB.out.size | omega | (simp; done) | (simp; omega) | (have := HB.out.size; simp at *; omega)) _ | with_reducible refine Below.setCell ?_ (by first | exact Nat.le_refl _ | with_reducible exact HB.out.size | omega | (simp; done) | (simp; omega) | (have := HB.out.size; simp at *; omega)) _)) b)
      have K0 := Lib.hid (VB.below (by repeat (first | with_reducible exact K0.out | with_reducible apply VB.drewN | with_reducible apply VB.drew | with_reducible apply VB.alloc)) b)
      clear b
      go_wp2_with fail
      go_roundw
      case rel => exact ⟨R, D % R, rfl, by first | rfl | simp, hlt, hR2, by omega, HG2, HB, K0⟩
      case measure => simp only [intOf]; have h := Int.natCast_emod D R; omega
    · obtain rfl : R = 0 := by omega
      have hDe := gcd_end HG.out
      have hz := HB.out.size
      obtain ⟨q1, hq1⟩ : ∃ q1, c / D = q1 := ⟨_, rfl⟩
      obtain ⟨q2, hq2⟩ : ∃ q2, a / D = q2 := ⟨_, rfl⟩
      have HQ1 := Lib.hid hq1
      have HQ2 := Lib.hid hq2
      have HF : Hid (fr = ((q1 : Int), (q2 : Int))) := Lib.hid (by rw [← HFr.out]; unfold frac; rw [← hDe, hq1, hq2])
      clear hq1 hq2 hDe
      go_upto_region 4 with fail
      refine region_storeG w.heap.size [(true, 0), (true, 1), (true, 3), (true, 4), (true, 2), (true, 5), (true, 6)] 7 _ (by kernel_rfl) rfl (by kernel_rfl) rfl rfl rfl ?_
      refine chain_pure 15 (v := .int .i64 c) rfl rfl rfl (fun w => by kernel_rfl) ?_
      refine chain_pure 16 (v := .int .i64 D) rfl rfl rfl (fun w => by kernel_rfl) ?_
      refine chain_pure 18 (v := .int .i64 a) rfl rfl rfl (fun w => by kernel_rfl) ?_
      refine chain_pure 19 (v := .int .i64 D) rfl rfl rfl (fun w => by kernel_rfl) ?_
      refine chain_pure 17 rfl rfl rfl (fun w => exec_quoV HQ1.out hD hc rfl (by kernel_rfl) (by kernel_rfl) w) ?_
      refine chain_pure 20 rfl rfl rfl (fun w => exec_quoV HQ2.out hD ha2 rfl (by kernel_rfl) (by kernel_rfl) w) ?_
      refine chain_pure 21 (v := .agg #[.int .i64 q1, .int .i64 q2]) rfl rfl rfl (fun w => by kernel_rfl) ?_
      intro w8 b8
      have hz8 := K0.out.below b8
      refine ⟨_, exec_storeV (T := 31) (cs := zv) (cs2 := fv fr) hz8 (a2_info rfl) rfl (fv_one _) rfl (by kernel_rfl) (by rw [HF.out]; kernel_rfl), World.grownBy.trans (BI.gs _ b8) (grown_setsV _ _ _ _), ?_⟩
      have KF := VB.stored (cs2 := fv fr) hz8 rfl
      have HBF := HB.out.grown (World.grownBy.trans (BI.gs w.heap.size b8) (grown_setsV w.heap.size (fv fr).toList 0 w8)) hz (fun k hk => by injection hk with hk; omega)
      show Exit.then _ _ _ _ _
      generalize w8.setCells w.heap.size 0 (fv fr).toList = w9 at *
      simp only [Act.put, List.setIfInBounds_toArray, List.set_cons_zero, List.set_cons_succ]
      go_wp2_with fail
      try simp only [Exit.inBlock, Exit.then]
      refine bodyPost_ret (res_vb Try.results126 rfl KF Try.underlying31 (a2_info rfl)) rfl ?_
      exact ⟨rfl, HBF⟩
end Go.Proofs.Ytjanphcfflahkaa.chance
