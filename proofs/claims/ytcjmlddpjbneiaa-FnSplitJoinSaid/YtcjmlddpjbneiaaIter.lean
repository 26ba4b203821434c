/- impl.partsOf: the function over which impl.SplitString ranges: it hands on the parts of a text, one after the other. -/
import Derived.RangeFuncBox
import Derived.RangeFuncLeaves
import Derived.Shelf.Abstract
import Derived.WalkKit
import Derived.OwnWalkIn
import Derived.TacticsInMore
import Derived.LoopNIn
import Derived.LoopIn
import Derived.RegionIn
import Derived.Maps.AppendAt
import Derived.Outline
import Derived.Lib.SmallJoins
import Derived.Sort.QuietIn
import Derived.Test.YtcjmlddpjbneiaaCut
namespace Go.Proofs.Ytcjmlddpjbneiaa.iter
open Go.RowKit Go.Shelf
attribute [local go_sem] Oper.semAt_some

/-- Two cells read as they did. -/
def Two (Bs Bb : Nat) (A B : World) : Prop := B.cell? ⟨Bs, 0, none⟩ = A.cell? ⟨Bs, 0, none⟩ ∧ B.cell? ⟨Bb, 0, none⟩ = A.cell? ⟨Bb, 0, none⟩
theorem Two.refl (Bs Bb : Nat) (A : World) : Two Bs Bb A A := ⟨rfl, rfl⟩
theorem Two.trans {Bs Bb : Nat} {A B C : World} (h : Two Bs Bb A B) (k : Two Bs Bb B C) : Two Bs Bb A C := ⟨k.1.trans h.1, k.2.trans h.2⟩
theorem Two.draws (Bs Bb : Nat) (A : World) (n : Nat) : Two Bs Bb A (A.drewN n) := ⟨rfl, rfl⟩
theorem Two.put {Bs Bb : Nat} {W : World} {l : Nat} (o : Obj) (h1 : Bs < l) (h2 : Bb < l) : Two Bs Bb W (W.putObj l o) := by
  have hb := fun j (h : j ≠ l) => (grownBy_putObj' W l o).block j
  constructor <;> refine World.cell?_of_block ?_
  · show (W.putObj l o).heap[Bs]? = W.heap[Bs]?
    simp [World.putObj, Array.getElem?_modify, show ¬ l = Bs by omega]
  · show (W.putObj l o).heap[Bb]? = W.heap[Bb]?
    simp [World.putObj, Array.getElem?_modify, show ¬ l = Bb by omega]
theorem grown_draws (w : World) (n : Nat) : w.grownBy (w.drewN n) none := ⟨rfl, rfl, rfl, Nat.le_refl _, fun _ _ _ => rfl⟩

set_option maxRecDepth 100000 in
set_option maxHeartbeats 2000000 in
/-- The closure: for every loop body that keeps what lay below n0. -/
theorem parts_in (n : Nat) (hn : 1 ≤ n) (l Bs Bb : Nat) (s : ByteArray) (b : UInt8) (hs : s.size ≤ 1048576) (J Jx : List ByteArray → World → Prop) (B : Nat) (hJ : AbidesFrom B J)
    (hY : ∀ pre x W, J pre W → pre.length < s.size + 1 → YieldAt Fence.wide (n - 1) Try.prog l #[.string x] W fun e W' =>
      (e = .returned (.bool true) ∧ J (pre ++ [x]) W' ∧ Two Bs Bb W W') ∨ (e = .returned (.bool false) ∧ Jx (pre ++ [x]) W'))
    (W : World) (hBs : W.cell? ⟨Bs, 0, none⟩ = some (.string s)) (hBb : W.cell? ⟨Bb, 0, none⟩ = some (.int .u8 b.toNat)) (h0 : J [] W) :
    CallsIn Fence.wide n Try.prog 45 #[.func (.yield l) #[] #[], .pointer (some ⟨Bs, 0, none⟩), .pointer (some ⟨Bb, 0, none⟩)] W fun e W' => (∃ v, e = .returned v) ∧
      ((∃ ys, ys = cut.parts s b ∧ J ys W') ∨ (∃ pre : List ByteArray, True ∧ Jx pre W')) := by
  refine callsIn_of_wp Try.func45 rfl trivial ?_ rfl
  simp only [Try.ntmps45, List.size_toArray, List.length_cons, List.length_nil, Nat.reduceAdd, Nat.reduceSub, Array.replicate_succ, Array.replicate_zero, List.push_toArray, List.append_toArray, List.nil_append, List.cons_append]
  gi_wp2
  gi_loopw [4, 5, 8] (fun f i c wr => ∃ k : Nat, k ≤ s.size ∧ c = .int .i64 k ∧ f = .int .i64 ((cut.cuts s b k).2 : Nat) ∧ J (cut.cuts s b k).1 wr ∧ Two Bs Bb W wr)
    (fun _ _ c _ => s.size - (intOf c).toNat)
  case atStart => exact ⟨0, Nat.zero_le _, rfl, rfl, h0, Two.refl _ _ _⟩
  case round =>
    obtain ⟨k, hk, rfl, rfl, hJs, hnx⟩ := hrel
    have hbd := cut.cuts_bd s b k
    have c1 : wr.cell? ⟨Bs, 0, none⟩ = some (.string s) := hnx.1.trans hBs
    have c2 : wr.cell? ⟨Bb, 0, none⟩ = some (.int .u8 b.toNat) := hnx.2.trans hBb
    by_cases hlt : k < s.size
    · by_cases hc : s[k] = b
      · have hbt : ((s[k].toNat : Int) == b.toNat) = true := by simp [hc]
        have hbt' : ((s[k].toNat : Int) != b.toNat) = false := by simp [hc]
        have HC := Lib.hid (cut.cuts_yes hlt hc)
        clear hc
        gi_wp2
        gi_quiet (fail)
        have hJ1 := hJ _ _ (wr.drewN nq) none hJs (grown_draws wr nq) (by simp)
        have hn1 : Two Bs Bb W (wr.drewN nq) := hnx.trans (Two.draws _ _ _ _)
        clear hJs hnx
        obtain ⟨fn, tmps, assign, body, hy, hR⟩ := hY _ (s.extract (cut.cuts s b k).2 k) (wr.drewN nq) hJ1 (by omega)
        gi_wp2
        refine hR.mono ?_
        rintro e W3 (⟨rfl, hJ3, hk3⟩ | ⟨rfl, hJx3⟩)
        · gi_wp2
          go_roundw
          case rel => exact ⟨k + 1, by omega, by go_num, by rw [HC.out]; go_num, by rw [HC.out]; exact hJ3, hn1.trans hk3⟩
          case measure => simp [intOf]; omega
        · gi_wp2
          refine bodyPost_ret (results_none rfl _ _ _) rfl ?_
          exact ⟨⟨_, rfl⟩, .inr ⟨_, trivial, hJx3⟩⟩
      · have hbt : ((s[k].toNat : Int) == b.toNat) = false := by
          simp only [beq_eq_false_iff_ne, ne_eq]
          intro e; exact hc (UInt8.toNat.inj (by omega))
        have hbt' : ((s[k].toNat : Int) != b.toNat) = true := by
          simp only [bne_iff_ne, ne_eq]
          intro e; exact hc (UInt8.toNat.inj (by omega))
        have HC := Lib.hid (cut.cuts_no hlt hc)
        clear hc
        gi_wp2
        gi_quiet (fail)
        have hJ1 := hJ _ _ (wr.drewN nq) none hJs (grown_draws wr nq) (by simp)
        have hn1 : Two Bs Bb W (wr.drewN nq) := hnx.trans (Two.draws _ _ _ _)
        clear hJs hnx
        gi_wp2
        go_roundw
        case rel => exact ⟨k + 1, by omega, by go_num, by rw [HC.out], by rw [HC.out]; exact hJ1, hn1⟩
        case measure => simp [intOf]; omega
    · obtain rfl : k = s.size := by omega
      obtain ⟨fn, tmps, assign, body, hy, hR⟩ := hY _ (s.extract (cut.cuts s b s.size).2 s.size) wr hJs (by omega)
      gi_wp2
      refine hR.mono ?_
      rintro e W3 (⟨rfl, hJ3, hk3⟩ | ⟨rfl, hJx3⟩)
      · gi_wp2
        go_end0
        exact ⟨⟨_, rfl⟩, .inl ⟨_, rfl, hJ3⟩⟩
      · gi_wp2
        go_end0
        exact ⟨⟨_, rfl⟩, .inr ⟨_, trivial, hJx3⟩⟩

set_option maxHeartbeats 1000000 in
/-- impl.partsOf: both arguments are boxed; the closure holds the boxes. -/
theorem of_in (n : Nat) (s : ByteArray) (b : UInt8) (w : World) :
    CallsIn Fence.wide n Try.prog 30 #[.string s, .int .u8 b.toNat] w fun e w' => e = .returned (.func (.func 45) #[] #[.pointer (some ⟨w.heap.size, 0, none⟩), .pointer (some ⟨w.heap.size + 1, 0, none⟩)]) ∧ w' = (w.alloc (.cells #[.string s] 9)).alloc (.cells #[.int .u8 b.toNat] 5) := by
  refine callsIn_of_wp Try.func30 rfl trivial ?_ rfl
  simp only [Try.ntmps30, List.size_toArray, List.length_cons, List.length_nil, Nat.reduceAdd, Nat.reduceSub, Array.replicate_succ, Array.replicate_zero, List.push_toArray, List.append_toArray, List.nil_append, List.cons_append]
  gi_wp2
  go_ret
  exact ⟨rfl, rfl⟩

/-- The contract of the value over which is ranged. -/
theorem stops (n : Nat) (hn : 1 ≤ n) (Bs Bb : Nat) (s : ByteArray) (b : UInt8) (hs : s.size ≤ 1048576) (w : World) (hBs : Bs < w.heap.size) (hBb : Bb < w.heap.size)
    (c1 : w.cell? ⟨Bs, 0, none⟩ = some (.string s)) (c2 : w.cell? ⟨Bb, 0, none⟩ = some (.int .u8 b.toNat)) :
    SeqStopsK Fence.wide n Try.prog 45 #[.pointer (some ⟨Bs, 0, none⟩), .pointer (some ⟨Bb, 0, none⟩)] (fun x : ByteArray => #[Value.string x]) (Two Bs Bb) (fun ys => ys = cut.parts s b) (fun _ => True) (s.size + 1) w := fun l J Jx W hW hJ _ hY h0 =>
  parts_in n hn l Bs Bb s b hs J Jx W.heap.size hJ hY W ((hW.cell (p := ⟨Bs, 0, none⟩) hBs).trans c1) ((hW.cell (p := ⟨Bb, 0, none⟩) hBb).trans c2) h0
end Go.Proofs.Ytcjmlddpjbneiaa.iter
