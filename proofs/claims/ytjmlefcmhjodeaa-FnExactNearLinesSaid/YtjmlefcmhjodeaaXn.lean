/- NearLines: in how many traits three cards are as on a line; the list of places. -/
import Derived.Test.YtjmlefcmhjodeaaC7
import Derived.Test.YtjmlefcmhjodeaaLs
namespace Go.Proofs.Ytjmlefcmhjodeaa.others
open Go.RowKit
open cards
set_option linter.unusedVariables false

def goodQ (a b c : Int) : Bool := (a + b + c) % 3 == 0
theorem good_one {a b c : Int} (ha : small a) (hb : small b) (hc : small c) : one (sameQ a b c) + one (difQ a b c) = one (goodQ a b c) := by
  obtain ⟨a0, a1⟩ := ha
  obtain ⟨b0, b1⟩ := hb
  obtain ⟨c0, c1⟩ := hc
  rcases (show a = 0 ∨ a = 1 ∨ a = 2 by omega) with rfl | rfl | rfl <;> rcases (show b = 0 ∨ b = 1 ∨ b = 2 by omega) with rfl | rfl | rfl <;> rcases (show c = 0 ∨ c = 1 ∨ c = 2 by omega) with rfl | rfl | rfl <;> rfl
/-- In how many traits three cards are as on a line. -/
def good (x y z : Cd) : Int := cntK goodQ x y z 4
theorem good_fit {x y z : Cd} (hx : x.ok = true) (hy : y.ok = true) (hz : z.ok = true) : cnt sameQ x y z + cnt difQ x y z = good x y z := by
  obtain ⟨x1, x2, x3, x4⟩ := small_of hx
  obtain ⟨y1, y2, y3, y4⟩ := small_of hy
  obtain ⟨z1, z2, z3, z4⟩ := small_of hz
  have e1 := good_one x1 y1 z1
  have e2 := good_one x2 y2 z2
  have e3 := good_one x3 y3 z3
  have e4 := good_one x4 y4 z4
  unfold good
  simp only [cntK, tr, cnt]
  omega
theorem goodQ_yes {a b c : Int} (h : ((a + b + c) % 3 == 0) = true) : goodQ a b c = true := h
theorem goodQ_no {a b c : Int} (h : ((a + b + c) % 3 == 0) = false) : goodQ a b c = false := h

set_option maxRecDepth 100000 in
set_option maxHeartbeats 4000000 in
theorem l10_good (x y z : Cd) (w : World) (hx : x.ok = true) (hy : y.ok = true) (hz : z.ok = true) :
    Calls Try.prog 71 #[x.val, y.val, z.val] w fun e w' => e = .returned (.int .i64 (good x y z)) ∧ Below w.heap.size w w' := by
  obtain ⟨⟨x1, x2⟩, ⟨x3, x4⟩, ⟨x5, x6⟩, x7, x8⟩ := Cd.bd hx
  obtain ⟨⟨y1, y2⟩, ⟨y3, y4⟩, ⟨y5, y6⟩, y7, y8⟩ := Cd.bd hy
  obtain ⟨⟨z1, z2⟩, ⟨z3, z4⟩, ⟨z5, z6⟩, z7, z8⟩ := Cd.bd hz
  clear hx hy hz
  go_enter Try.func71, Try.ntmps71
  go_wp2_with fail
  go_loopw [7, 8] (fun n i wr => ∃ k : Nat, k ≤ 4 ∧ i = .int .i64 k ∧ n = .int .i64 (cntK goodQ x y z k) ∧ Hid (Below w.heap.size w wr) ∧ Hid (Box wr w.heap.size x) ∧ Hid (Box wr (w.heap.size + 1) y) ∧ Hid (Box wr (w.heap.size + 1 + 1) z)) (fun _ i _ => 4 - (intOf i).toNat)
  case atStart => exact ⟨0, by omega, rfl, rfl, Lib.hid (by repeat (first | with_reducible exact Below.refl _ _ | with_reducible exact HB.out | with_reducible apply Below.drew | with_reducible apply bdN | with_reducible refine Below.alloc ?_ (by first | exact Nat.le_refl _ | with_reducible exact HB.out.size | omega | (simp; done) | (simp; omega) | (have := HB.out.size; simp at *; omega)) _ | with_reducible refine Below.setCell ?_ (by first | exact Nat.le_refl _ | with_reducible exact HB.out.size | omega | (simp; done) | (simp; omega) | (have := HB.out.size; simp at *; omega)) _)), Lib.hid (by repeat (first | with_reducible exact HB.out | with_reducible apply Box.drewN | with_reducible apply Box.drew | (with_reducible refine Box.newAt ?_ ?_ <;> first | (simp; done) | rfl) | with_reducible apply Box.alloc)), Lib.hid (by repeat (first | with_reducible exact HB.out | with_reducible apply Box.drewN | with_reducible apply Box.drew | (with_reducible refine Box.newAt ?_ ?_ <;> first | (simp; done) | rfl) | with_reducible apply Box.alloc)), Lib.hid (by repeat (first | with_reducible exact HB.out | with_reducible apply Box.drewN | with_reducible apply Box.drew | (with_reducible refine Box.newAt ?_ ?_ <;> first | (simp; done) | rfl) | with_reducible apply Box.alloc))⟩
  case round =>
    obtain ⟨k, hk, rfl, rfl, HB, K0, K1, K2⟩ := hrel
    obtain ⟨k0a, k0b, k0c, k0d⟩ := K0.out.cell
    obtain ⟨k1a, k1b, k1c, k1d⟩ := K1.out.cell
    obtain ⟨k2a, k2b, k2c, k2d⟩ := K2.out.cell
    have n0 := cntK_lo goodQ x y z k
    have n1 := cntK_hi goodQ x y z k
    obtain ⟨k1, HK, HS⟩ : ∃ k1, Hid (k1 = k + 1) ∧ Hid (cntK goodQ x y z k1 = cntK goodQ x y z k + one (goodQ (tr x k) (tr y k) (tr z k))) := ⟨_, rfl, rfl⟩
    rcases (show k = 0 ∨ k = 1 ∨ k = 2 ∨ k = 3 ∨ k = 4 by omega) with rfl | rfl | rfl | rfl | rfl
    iterate 4
      · go_wp2_with fail
        have qk0a := fun d os => cell_regrown k0a d os
        have qk0b := fun d os => cell_regrown k0b d os
        have qk0c := fun d os => cell_regrown k0c d os
        have qk0d := fun d os => cell_regrown k0d d os
        have qk1a := fun d os => cell_regrown k1a d os
        have qk1b := fun d os => cell_regrown k1b d os
        have qk1c := fun d os => cell_regrown k1c d os
        have qk1d := fun d os => cell_regrown k1d d os
        have qk2a := fun d os => cell_regrown k2a d os
        have qk2b := fun d os => cell_regrown k2b d os
        have qk2c := fun d os => cell_regrown k2c d os
        have qk2d := fun d os => cell_regrown k2d d os
        refine wp_region_quiet_below (by kernel_rfl) (by kernel_rfl) ?_
        repeat (first | go_big_quiet_step ((fail)) | quiet_step ((fail)))
        refine wpQuiet_nil ?_
        intro w2 hw2
        have b : Below wr.heap.size wr w2 := by obtain ⟨r, hr⟩ := hw2; rw [hr]; exact below_regrown _ _ _
        clear hw2 qk0a qk0b qk0c qk0d qk1a qk1b qk1c qk1d qk2a qk2b qk2c qk2d
        have Sw2 := Lib.hid b.size
        have HB := Lib.hid (chain0 (w := w) (by repeat (first | with_reducible exact Below.refl _ _ | with_reducible exact HB.out | with_reducible apply Below.drew | with_reducible apply bdN | with_reducible refine Below.alloc ?_ (by first | exact Nat.le_refl _ | with_reducible exact HB.out.size | omega | (simp; done) | (simp; omega) | (have := HB.out.size; simp at *; omega)) _ | with_reducible refine Below.setCell ?_ (by first | exact Nat.le_refl _ | with_reducible exact HB.out.size | omega | (simp; done) | (simp; omega) | (have := HB.out.size; simp at *; omega)) _)) b)
        have K0 : Hid (Box _ (w.heap.size) (x)) := Lib.hid (Box.below (by repeat (first | with_reducible exact K0.out | with_reducible apply Box.drewN | with_reducible apply Box.drew | (with_reducible refine Box.newAt ?_ ?_ <;> first | (simp; done) | rfl) | with_reducible apply Box.alloc)) b)
        have K1 : Hid (Box _ (w.heap.size + 1) (y)) := Lib.hid (Box.below (by repeat (first | with_reducible exact K1.out | with_reducible apply Box.drewN | with_reducible apply Box.drew | (with_reducible refine Box.newAt ?_ ?_ <;> first | (simp; done) | rfl) | with_reducible apply Box.alloc)) b)
        have K2 : Hid (Box _ (w.heap.size + 1 + 1) (z)) := Lib.hid (Box.below (by repeat (first | with_reducible exact K2.out | with_reducible apply Box.drewN | with_reducible apply Box.drew | (with_reducible refine Box.newAt ?_ ?_ <;> first | (simp; done) | rfl) | with_reducible apply Box.alloc)) b)
        try clear k0a k0b k0c k0d k0z
        have k0z := K0.out.lt
        obtain ⟨k0a, k0b, k0c, k0d⟩ := K0.out.cell
        try clear k1a k1b k1c k1d k1z
        have k1z := K1.out.lt
        obtain ⟨k1a, k1b, k1c, k1d⟩ := K1.out.cell
        try clear k2a k2b k2c k2d k2z
        have k2z := K2.out.lt
        obtain ⟨k2a, k2b, k2c, k2d⟩ := K2.out.cell
        clear b
        go_wp2_with fail
        all_goals go_roundw
        · refine ⟨k1, by have := HK.out; omega, by rw [HK.out]; rfl, ?_, HB, K0, K1, K2⟩
          rw [HS.out]
          simp [tr, one, goodQ_yes ‹_›]
        · simp [intOf]
        · refine ⟨k1, by have := HK.out; omega, by rw [HK.out]; rfl, ?_, HB, K0, K1, K2⟩
          rw [HS.out]
          simp [tr, one, goodQ_no ‹_›]
        · simp [intOf]
    · go_wp2_with fail
      go_ret
      exact ⟨rfl, HB.out⟩

def nItem (l : List Cd) (i j k : Nat) : List A3 := match l[i]?, l[j]?, l[k]? with
  | some x, some y, some z => if good x y z = 3 then [⟨i, j, k⟩] else []
  | _, _, _ => []
def nRow2 (l : List Cd) (i j : Nat) : Nat → List A3
  | 0 => []
  | k + 1 => nRow2 l i j k ++ (if j < k then nItem l i j k else [])
def nRow1 (l : List Cd) (i : Nat) : Nat → List A3
  | 0 => []
  | j + 1 => nRow1 l i j ++ (if i < j then nRow2 l i j l.length else [])
def allN (l : List Cd) : Nat → List A3
  | 0 => []
  | i + 1 => allN l i ++ nRow1 l i l.length
theorem nItem_len (l : List Cd) (i j k : Nat) : (nItem l i j k).length ≤ 1 := by
  unfold nItem
  split
  · split <;> simp
  · simp
theorem nRow2_len (l : List Cd) (i j : Nat) : ∀ k : Nat, (nRow2 l i j k).length ≤ k
  | 0 => by simp [nRow2]
  | k + 1 => by
    have := nRow2_len l i j k
    have := nItem_len l i j k
    simp only [nRow2, List.length_append]
    split <;> simp <;> omega
theorem nRow1_len (l : List Cd) (i : Nat) : ∀ j : Nat, (nRow1 l i j).length ≤ j * l.length
  | 0 => by simp [nRow1]
  | j + 1 => by
    have := nRow1_len l i j
    have := nRow2_len l i j l.length
    simp only [nRow1, List.length_append, Nat.succ_mul]
    split <;> simp <;> omega
theorem allN_len (l : List Cd) : ∀ i : Nat, (allN l i).length ≤ i * (l.length * l.length)
  | 0 => by simp [allN]
  | i + 1 => by
    have := allN_len l i
    have := nRow1_len l i l.length
    simp only [allN, List.length_append, Nat.succ_mul]
    omega
theorem nRow2_low {l : List Cd} {i j : Nat} : ∀ {k : Nat}, k ≤ j + 1 → nRow2 l i j k = []
  | 0, _ => rfl
  | k + 1, h => by
    simp only [nRow2]
    rw [nRow2_low (by omega), if_neg (by omega)]; rfl
theorem nRow1_low {l : List Cd} {i : Nat} : ∀ {j : Nat}, j ≤ i + 1 → nRow1 l i j = []
  | 0, _ => rfl
  | j + 1, h => by
    simp only [nRow1]
    rw [nRow1_low (by omega), if_neg (by omega)]; rfl
theorem nRow1_step {l : List Cd} {i j : Nat} (h : i < j) : nRow1 l i (j + 1) = nRow1 l i j ++ nRow2 l i j l.length := by
  simp only [nRow1]
  rw [if_pos h]
theorem nRow2_yes {l : List Cd} {i j k : Nat} {x y z : Cd} (hjk : j < k) (hx : l[i]? = some x) (hy : l[j]? = some y) (hz : l[k]? = some z) (h : (good x y z == 3) = true) : nRow2 l i j (k + 1) = nRow2 l i j k ++ [⟨i, j, k⟩] := by
  simp only [nRow2]
  rw [if_pos hjk]
  unfold nItem
  rw [hx, hy, hz]
  simp only
  rw [if_pos (by simpa using h)]
theorem nRow2_no {l : List Cd} {i j k : Nat} {x y z : Cd} (hjk : j < k) (hx : l[i]? = some x) (hy : l[j]? = some y) (hz : l[k]? = some z) (h : (good x y z == 3) = false) : nRow2 l i j (k + 1) = nRow2 l i j k := by
  simp only [nRow2]
  rw [if_pos hjk]
  unfold nItem
  rw [hx, hy, hz]
  simp only
  rw [if_neg (by simpa using h), List.append_nil]
noncomputable def nearR (l : List Cd) : List A3 × Bool := if handB l = true then (allN l l.length, true) else ([], false)
theorem near_few {l : List Cd} (h : isHand l) : (allN l l.length).length ≤ 20000 := by
  have h1 := h.1
  have h2 := allN_len l l.length
  have h3 : l.length * l.length ≤ 27 * 27 := Nat.mul_le_mul h1 h1
  have h4 : l.length * (l.length * l.length) ≤ 27 * (27 * 27) := Nat.mul_le_mul h1 h3
  omega
theorem nearR_len (l : List Cd) : (nearR l).1.length ≤ 100000000 := by
  unfold nearR
  split
  · rename_i h
    have := near_few (handB_true.1 h)
    show (allN l l.length).length ≤ _
    omega
  · simp
/-- What is there at any time of the three loops. -/
theorem near_part {l : List Cd} {n : Nat} (hn : l.length = n) (h : n ≤ 27) {i j k : Nat} (hi : i ≤ n) (hj : j ≤ n) (hk : k ≤ n) (i' j' : Nat) : (allN l i ++ nRow1 l i' j ++ nRow2 l i' j' k).length ≤ 1000000 := by
  have h1 := allN_len l i
  have h2 := nRow1_len l i' j
  have h3 := nRow2_len l i' j' k
  rw [hn] at h1 h2
  have h4 : i * (n * n) ≤ 27 * (27 * 27) := Nat.mul_le_mul (by omega) (Nat.mul_le_mul h h)
  have h5 : j * n ≤ 27 * 27 := Nat.mul_le_mul (by omega) h
  simp only [List.length_append]
  omega
end Go.Proofs.Ytjmlefcmhjodeaa.others
