/- ChanceTrait: the model's column. -/
import Derived.Test.YtcedbhgjabheaaaG1d
namespace Go.Proofs.Ytcedbhgjabheaaa.chance
open Go.RowKit
open cards reg parting
set_option linter.unusedVariables false

/-- How many cards have each value of a trait. -/
abbrev colV (t : Nat) (l : List Cd) : Array Value := #[.int .i64 (cntT t 0 l : Nat), .int .i64 (cntT t 1 l : Nat), .int .i64 (cntT t 2 l : Nat)]
theorem a3_info {cs : Array Value} (h : cs.size = 3) : ((Try.prog).info? 61).map (·.size) = some cs.size := by
  rw [h]; kernel_rfl
theorem colV_one (t : Nat) (l : List Cd) : (colV t l).all (·.oneCell') = true := by simp [Value.oneCell']

set_option maxRecDepth 100000 in
set_option maxHeartbeats 4000000 in
theorem l5_column (l : List Cd) (t : Nat) (p : Option Addr) (n c : Nat) (w : World) (hn : l.length = n) (hl : n ≤ 27) (hr : Rd w p (flat l)) (hok : l.all Cd.ok = true) (ht : t < 4) :
    Calls Try.prog 74 #[.slice p n c, .int .i64 t] w fun e w' => e = .returned (.agg (colV t l)) ∧ Below w.heap.size w w' := by
  have KA : Hid (VB ((w.alloc (.cells #[.int .i64 0, .int .i64 0, .int .i64 0] 61)).alloc (.cells #[.int .i64 0, .int .i64 0, .int .i64 0] 61)) w.heap.size 61 #[.int .i64 0, .int .i64 0, .int .i64 0]) := Lib.hid ((VB.newAt rfl rfl).alloc _)
  have KB : Hid (VB ((w.alloc (.cells #[.int .i64 0, .int .i64 0, .int .i64 0] 61)).alloc (.cells #[.int .i64 0, .int .i64 0, .int .i64 0] 61)) (w.heap.size + 1) 61 (colV t (l.take 0))) := Lib.hid (VB.newAt (by simp) rfl)
  have HB0 : Hid (Below w.heap.size w ((w.alloc (.cells #[.int .i64 0, .int .i64 0, .int .i64 0] 61)).alloc (.cells #[.int .i64 0, .int .i64 0, .int .i64 0] 61))) := Lib.hid (((Below.refl _ _).alloc (Nat.le_refl _) _).alloc (by simp) _)
  have HN := Lib.hid hn
  have HR0 := Lib.hid hr
  have HK := Lib.hid hok
  have t0 : (0 : Int) ≤ (t : Int) := by omega
  have t1 : (t : Int) < 4 := by omega
  clear hn hr hok
  go_enter Try.func74, Try.ntmps74
  go_wp2_with fail
  go_loopw [6] (fun i wr => ∃ k : Nat, k ≤ n ∧ i = .int .i64 k ∧ Hid (VB wr w.heap.size 61 #[.int .i64 0, .int .i64 0, .int .i64 0]) ∧ Hid (VB wr (w.heap.size + 1) 61 (colV t (l.take k))) ∧ Hid (Below w.heap.size w wr)) (fun i _ => n - (intOf i).toNat)
  case atStart => exact ⟨0, Nat.zero_le _, rfl, KA, KB, HB0⟩
  case round =>
    clear KA KB HB0
    obtain ⟨k, hk, rfl, KA, KB, HB⟩ := hrel
    by_cases hlt : k < n
    · obtain ⟨b, o, x, rfl, hb, hx, c0, c1, c2, c3⟩ := HR0.out.card (k := k) (by rw [HN.out]; exact hlt)
      have hxo := ok_at HK.out hx
      have hbd := tr_bd hxo t
      have m0 : (0 : Int) ≤ (k : Int) := by omega
      have m1 : (k : Int) < (n : Int) := by omega
      have e0 := (HB.out.cell (p := ⟨b, o + k * 4 + t, none⟩) hb).trans (tr_cell c0 c1 c2 c3 ht)
      have hs0 := cntT_snoc t 0 x (l.take k)
      have hs1 := cntT_snoc t 1 x (l.take k)
      have hs2 := cntT_snoc t 2 x (l.take k)
      have hts : l.take (k + 1) = l.take k ++ [x] := by rw [List.take_add_one, hx]; rfl
      have HTs := Lib.hid hts
      have hle : (l.take k).length ≤ 27 := by rw [List.length_take, HN.out]; omega
      have l0 := cntT_le t 0 (l.take k)
      have l1 := cntT_le t 1 (l.take k)
      have l2 := cntT_le t 2 (l.take k)
      have k0 : wr.cell? ⟨w.heap.size + 1, 0, none⟩ = some (.int .i64 (cntT t 0 (l.take k) : Nat)) := VB.at_ KB.out (j := 0) rfl
      have k1 : wr.cell? ⟨w.heap.size + 1, 1, none⟩ = some (.int .i64 (cntT t 1 (l.take k) : Nat)) := VB.at_ KB.out (j := 1) rfl
      have k2 : wr.cell? ⟨w.heap.size + 1, 2, none⟩ = some (.int .i64 (cntT t 2 (l.take k) : Nat)) := VB.at_ KB.out (j := 2) rfl
      have kf := VB.frozen KB.out
      have HNC : Hid (colV t (l.take (k + 1)) = #[.int .i64 ((cntT t 0 (l.take k) : Nat) + (if tr x t = 0 then 1 else 0 : Int)), .int .i64 ((cntT t 1 (l.take k) : Nat) + (if tr x t = 1 then 1 else 0 : Int)), .int .i64 ((cntT t 2 (l.take k) : Nat) + (if tr x t = 2 then 1 else 0 : Int))]) := Lib.hid (by
        unfold colV
        rw [hts, hs0, hs1, hs2]
        congr 1
        split <;> split <;> split <;> simp)
      have HQ : Hid (colV t (l.take k) = #[.int .i64 (cntT t 0 (l.take k) : Nat), .int .i64 (cntT t 1 (l.take k) : Nat), .int .i64 (cntT t 2 (l.take k) : Nat)]) := Lib.hid rfl
      rw [HQ.out] at KB
      clear hs0 hs1 hs2 hts c0 c1 c2 c3 hx
      generalize cntT t 0 (l.take k) = q0 at *
      generalize cntT t 1 (l.take k) = q1 at *
      generalize cntT t 2 (l.take k) = q2 at *
      rcases (show tr x t = 0 ∨ tr x t = 1 ∨ tr x t = 2 by omega) with hv | hv | hv
      · rw [hv] at e0 HNC
        go_wp2_with fail
        go_roundw
        case rel => exact ⟨k + 1, by omega, by go_num, Lib.hid (VB.far KA.out (by simp) _), Lib.hid (VB.set_ KB.out (by rw [HNC.out]; simp)), Lib.hid (HB.out.setCell (by simp) _)⟩
        case measure => simp [intOf]; omega
      · rw [hv] at e0 HNC
        go_wp2_with fail
        go_roundw
        case rel => exact ⟨k + 1, by omega, by go_num, Lib.hid (VB.far KA.out (by simp) _), Lib.hid (VB.set_ KB.out (by rw [HNC.out]; simp)), Lib.hid (HB.out.setCell (by simp) _)⟩
        case measure => simp [intOf]; omega
      · rw [hv] at e0 HNC
        go_wp2_with fail
        go_roundw
        case rel => exact ⟨k + 1, by omega, by go_num, Lib.hid (VB.far KA.out (by simp) _), Lib.hid (VB.set_ KB.out (by rw [HNC.out]; simp)), Lib.hid (HB.out.setCell (by simp) _)⟩
        case measure => simp [intOf]; omega
    · have hkn : k = n := by omega
      subst hkn
      rw [List.take_of_length_le (by rw [HN.out]; exact Nat.le_refl _)] at KB
      go_wp2_with (first
        | ((with_reducible refine take_vb rfl 61 _ rfl KB.out Try.underlying61 (a3_info rfl) ?_ ?_); rfl)
        | ((with_reducible refine store_vb rfl 61 _ _ rfl KA.out (a3_info rfl) ?_ (colV t l) rfl (colV_one t l) ?_ ?_); rfl; rfl; intro w2 hM hG))
      try simp only [Exit.inBlock, Exit.then]
      refine bodyPost_ret (res_vb Try.results74 rfl hM Try.underlying61 (a3_info rfl)) rfl ?_
      exact ⟨rfl, HB.out.grown hG HB.out.size (fun k hk => by injection hk with hk; omega)⟩
end Go.Proofs.Ytcedbhgjabheaaa.chance
