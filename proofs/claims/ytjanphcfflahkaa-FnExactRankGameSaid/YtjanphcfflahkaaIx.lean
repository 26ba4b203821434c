/- Slices of numbers: the law's own functions walked. -/
import Derived.Test.YtjanphcfflahkaaIs
namespace Go.Proofs.Ytjanphcfflahkaa.cards
open Go.RowKit
set_option linter.unusedVariables false

set_option maxRecDepth 100000 in
set_option maxHeartbeats 2000000 in
theorem eq_ints (l : List Int) (p1 p2 : Option Addr) (n c1 c2 : Nat) (w : World) (hn : l.length = n) (hl : n ≤ 1000000000) (hr1 : Rd w p1 (ints l)) (hr2 : Rd w p2 (ints l)) :
    Calls Try.prog 30 #[.slice p1 n c1, .slice p2 n c2] w fun e w' => e = .returned (.bool true) ∧ Below w.heap.size w w' := by
  have HN := Lib.hid hn
  have H1 := Lib.hid hr1
  have H2 := Lib.hid hr2
  clear hn hr1 hr2
  go_enter Try.func30, Try.ntmps30
  go_wp2_with fail
  go_loopw [5] (fun i wr => ∃ k : Nat, k ≤ n ∧ i = .int .i64 k ∧ Hid (Below w.heap.size w wr)) (fun i _ => n - (intOf i).toNat)
  case atStart => exact ⟨0, Nat.zero_le _, rfl, Below.refl _ _⟩
  case round =>
    obtain ⟨k, hk, rfl, HB⟩ := hrel
    by_cases hlt : k < n
    · obtain ⟨b, o, x, rfl, hb, hx, d0⟩ := (H1.out.below HB.out).int (k := k) (by rw [HN.out]; exact hlt)
      obtain ⟨b', o', y, rfl, hb', hy, e0⟩ := (H2.out.below HB.out).int (k := k) (by rw [HN.out]; exact hlt)
      obtain rfl : x = y := by rw [hx] at hy; injection hy
      have b0 : (0 : Int) ≤ (k : Int) := by omega
      have b1 : (k : Int) < (n : Int) := by omega
      clear hx hy
      go_wp2_with fail
      have qd0 := fun d os => cell_regrown d0 d os
      have qe0 := fun d os => cell_regrown e0 d os
      refine wp_region_quiet_below (by kernel_rfl) (by kernel_rfl) ?_
      repeat (first | go_big_quiet_step ((fail)) | quiet_step ((fail)))
      refine wpQuiet_nil ?_
      intro w2 hw2
      have b : Below wr.heap.size wr w2 := by obtain ⟨r, hr⟩ := hw2; rw [hr]; exact below_regrown _ _ _
      clear hw2 qd0 qe0
      have Sw2 := Lib.hid b.size
      have HB := Lib.hid (chain0 (w := w) (by repeat (first | with_reducible exact Below.refl _ _ | with_reducible exact HB.out | with_reducible apply Below.drew | with_reducible apply bdN | with_reducible refine Below.alloc ?_ (by first | exact Nat.le_refl _ | with_reducible exact HB.out.size | omega | (simp; done) | (simp; omega) | (have := HB.out.size; simp at *; omega)) _ | with_reducible refine Below.setCell ?_ (by first | exact Nat.le_refl _ | with_reducible exact HB.out.size | omega | (simp; done) | (simp; omega) | (have := HB.out.size; simp at *; omega)) _)) b)
      clear b
      clear d0 e0
      go_wp2_with fail
      go_roundw
      case rel => exact ⟨k + 1, by omega, by go_num, HB⟩
      case measure => simp [intOf]; omega
    · obtain rfl : k = n := by omega
      go_wp2_with fail
      go_ret
      exact ⟨rfl, HB.out⟩

/-- A row whose first i numbers are marked. -/
def mi (k : Nat) (l : List Int) (i : Nat) : List Int := (List.range i).map (fun j => ((k + j : Nat) : Int)) ++ l.drop i
def markedI (k n : Nat) : List Int := (List.range n).map (fun j => ((k + j : Nat) : Int))
theorem mi_zero (k : Nat) (l : List Int) : mi k l 0 = l := by simp [mi]
theorem mi_len {k : Nat} {l : List Int} {n i : Nat} (h : l.length = n) (hi : i ≤ n) : (mi k l i).length = n := by simp [mi]; omega
theorem mi_set {k : Nat} {l : List Int} {n i : Nat} (h : l.length = n) (hi : i < n) : (mi k l i).set i ((k + i : Nat) : Int) = mi k l (i + 1) := by
  unfold mi
  rw [List.set_append_right _ _ (by simp), List.range_succ, List.map_append, List.append_assoc]
  have e : i - ((List.range i).map (fun j => ((k + j : Nat) : Int))).length = 0 := by simp
  rw [e, List.drop_eq_getElem_cons (by omega)]
  rfl
theorem mi_all {k : Nat} {l : List Int} {n : Nat} (h : l.length = n) : mi k l n = markedI k n := by simp [mi, markedI, ← h]
theorem markedI_len (k n : Nat) : (markedI k n).length = n := by simp [markedI]
theorem markedI_at {k n i : Nat} (h : i < n) : (markedI k n)[i]? = some ((k + i : Nat) : Int) := by simp [markedI, h]

set_option maxRecDepth 100000 in
set_option maxHeartbeats 4000000 in
theorem mark_ints (l : List Int) (v : Value) (B k0 n : Nat) (w : World) (hn : l.length = n) (hl : k0 + n ≤ 1000000000) (hB : B ≤ w.heap.size) (ho : OwnI w B v l) :
    Calls Try.prog 33 #[v, .int .i64 k0] w fun e w' => e = .returned (.int .i64 (k0 + n : Nat)) ∧ OwnI w' B v (markedI k0 n) ∧ w.grownBy w' v.ownBlock := by
  obtain ⟨p, c, rfl, hc, hr, hp⟩ := ho.form
  rw [hn] at ho hp ⊢
  have HN := Lib.hid hn
  have HP := Lib.hid hp
  have HO := Lib.hid ho
  clear hn hr ho hc hp
  go_enter Try.func33, Try.ntmps33
  go_wp2_with fail
  go_loopw [1, 5] (fun q i wr => ∃ k : Nat, k ≤ n ∧ i = .int .i64 k ∧ q = .int .i64 (k0 + k : Nat) ∧ Hid (OwnI wr B (.slice p n c) (mi k0 l k)) ∧ Hid (w.grownBy wr (Value.slice p n c).ownBlock)) (fun _ i _ => n - (intOf i).toNat)
  case atStart => exact ⟨0, Nat.zero_le _, rfl, rfl, by rw [mi_zero]; exact HO, World.grownBy.refl _ _⟩
  case round =>
    clear HO
    obtain ⟨k, hk, rfl, rfl, HO, HB⟩ := hrel
    by_cases hlt : k < n
    · obtain ⟨g, rfl, _⟩ := HP.out (by omega)
      obtain ⟨y, hy, d0, hf, hg1, hg2⟩ := HO.out.slot (mi_len HN.out hk) k hlt
      have b0 : (0 : Int) ≤ (k : Int) := by omega
      have b1 : (k : Int) < (n : Int) := by omega
      have HS := HO.out.store (mi_len HN.out hk) k ((k0 + k : Nat) : Int)
      rw [mi_set HN.out hlt] at HS
      have HS := Lib.hid HS
      clear hy HO
      go_wp2_with fail
      go_roundw
      case rel => exact ⟨k + 1, by omega, by go_num, by go_num, HS, grown_set HB.out _ _⟩
      case measure => simp [intOf]; omega
    · obtain rfl : k = n := by omega
      rw [mi_all HN.out] at HO
      go_wp2_with fail
      go_ret
      exact ⟨rfl, HO.out, HB.out⟩

set_option maxRecDepth 100000 in
set_option maxHeartbeats 4000000 in
theorem held_ints (v : Value) (B k0 n : Nat) (w : World) (hl : k0 + n ≤ 1000000000) (ho : OwnI w B v (markedI k0 n)) :
    Calls Try.prog 34 #[v, .int .i64 k0] w fun e w' => e = .returned (.int .i64 (k0 + n : Nat)) ∧ Below w.heap.size w w' := by
  obtain ⟨p, c, rfl, hc, hr, hp⟩ := ho.form
  rw [markedI_len] at ho hp ⊢
  have HR := Lib.hid hr
  clear hr ho hc hp
  go_enter Try.func34, Try.ntmps34
  go_wp2_with fail
  go_loopw [1, 5] (fun q i wr => ∃ k : Nat, k ≤ n ∧ i = .int .i64 k ∧ q = .int .i64 (k0 + k : Nat) ∧ Hid (Below w.heap.size w wr)) (fun _ i _ => n - (intOf i).toNat)
  case atStart => exact ⟨0, Nat.zero_le _, rfl, rfl, Below.refl _ _⟩
  case round =>
    obtain ⟨k, hk, rfl, rfl, HB⟩ := hrel
    by_cases hlt : k < n
    · obtain ⟨b, o, x, rfl, hb, hx, d0⟩ := (HR.out.below HB.out).int (k := k) (by rw [markedI_len]; exact hlt)
      obtain rfl : ((k0 + k : Nat) : Int) = x := by rw [markedI_at hlt] at hx; injection hx
      have b0 : (0 : Int) ≤ (k : Int) := by omega
      have b1 : (k : Int) < (n : Int) := by omega
      clear hx
      go_wp2_with fail
      go_roundw
      case rel => exact ⟨k + 1, by omega, by go_num, by go_num, HB⟩
      case measure => simp [intOf]; omega
    · obtain rfl : k = n := by omega
      go_wp2_with fail
      go_ret
      exact ⟨rfl, HB.out⟩
end Go.Proofs.Ytjanphcfflahkaa.cards
