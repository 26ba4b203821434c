/- A fraction that is made lowest: the program and the model alike; the number of choices. -/
import Derived.Test.YtghfplmpfgkmeaaG1
import Derived.Test.YtghfplmpfgkmeaaIh
import Derived.Test.YtghfplmpfgkmeaaVy
import Derived.Deep.Cut
namespace Go.Proofs.Ytghfplmpfgkmeaa.chance
open Go.RowKit
open cards reg
set_option linter.unusedVariables false

/-- A fraction as an array. -/
abbrev fv (p : Int × Int) : Array Value := #[.int .i64 p.1, .int .i64 p.2]
abbrev zv : Array Value := #[.int .i64 0, .int .i64 0]
theorem fv_one (p : Int × Int) : (fv p).all (·.oneCell') = true := by simp [Value.oneCell']
theorem a2_info {cs : Array Value} (h : cs.size = 2) : ((Try.prog).info? 57).map (·.size) = some cs.size := by
  rw [h]; kernel_rfl
theorem gcd_rec (d r : Nat) : Nat.gcd r d = Nat.gcd (d % r) r := Nat.gcd_rec r d
theorem exec_quoV {c d r : Nat} (hr : c / d = r) (hd : 0 < d) (hc : c ≤ 1000000000000000) {a : Act} {o : Oper} {p q : Operand} {s : TypeId} (ho : o.op = .binOp .quo 3 p q s) (hp : a.eval p = .int .i64 c) (hq : a.eval q = .int .i64 d) (w : World) :
    (execOp a.eval o).run Try.prog w = .ok (.value (.int .i64 r)) w := by
  subst hr
  have e := Int.tdiv_eq_ediv_of_nonneg (a := (c : Int)) (b := d) (by omega)
  have hne : ((d : Int) = 0) = False := eq_false (by omega)
  have hle := Nat.div_le_self c d
  unfold execOp
  rw [ho]
  simp only [hp, hq]
  go_simp
  rw [if_neg (by omega)]
  have hw : IntKind.i64.wrap ((c : Int) / d) = (c : Int) / d := by
    have h1 : (c : Int) / d = ((c / d : Nat) : Int) := rfl
    rw [h1]
    clear h1 e
    generalize c / d = q at *
    exact IntWalk.i64_in _ ⟨by omega, by omega⟩
  rw [hw]
theorem exec_remV {c d : Nat} (hd : 0 < d) (hc : d ≤ 1000000000000000) {a : Act} {o : Oper} {p q : Operand} {s : TypeId} (ho : o.op = .binOp .rem 3 p q s) (hp : a.eval p = .int .i64 c) (hq : a.eval q = .int .i64 d) (w : World) :
    (execOp a.eval o).run Try.prog w = .ok (.value (.int .i64 ((c % d : Nat) : Int))) w := by
  have e := Int.tmod_eq_emod_of_nonneg (a := (c : Int)) (b := d) (by omega)
  have hne : ((d : Int) = 0) = False := eq_false (by omega)
  have hle := Nat.mod_lt c hd
  unfold execOp
  rw [ho]
  simp only [hp, hq]
  go_simp
  omega

theorem exec_storeV {T : TypeId} {cs cs2 : Array Value} {w : World} {g : Nat} (h : VB w g T cs) (hi : ((Try.prog).info? T).map (·.size) = some cs.size) (hs : cs2.size = cs.size) (h1 : cs2.all (·.oneCell') = true) {a : Act} {o : Oper} {p q : Operand} (ho : o.op = .store T p q)
    (hp : a.eval p = .pointer (some ⟨g, 0, none⟩)) (hq : a.eval q = .agg cs2) : (execOp a.eval o).run Try.prog w = .ok .skip (w.setCells g 0 cs2.toList) := by
  have hr := run_storeAt_mid (P := Try.prog) w g 0 T cs2 (by rw [hs]; exact h.there) (by rw [hs]; exact hi) h1
  unfold execOp
  rw [ho]
  simp only [hp, hq]
  simp [hr, Result.andThen]
theorem gcd_end {D c a : Nat} (h : Nat.gcd 0 D = Nat.gcd c a) : D = Nat.gcd c a := by rw [← h, Nat.gcd_zero_left]

end Go.Proofs.Ytghfplmpfgkmeaa.chance
