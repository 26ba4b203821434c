/- Games that the law makes: its own functions on them. -/
import Derived.Test.YtjanphcfflahkaaEc
namespace Go.Proofs.Ytjanphcfflahkaa.game
open Go.RowKit
open cards deal
set_option linter.unusedVariables false

/-! Slices of numbers. -/
set_option maxHeartbeats 400000 in
theorem sz_ints (p : Option Addr) (n c : Nat) (left : Int) (w : World) (h0 : 0 ≤ left) (h1 : left ≤ 1048576) (hn : n ≤ maxLen) :
    Calls Try.prog 62 #[.slice p n c, .int .i64 left] w fun e w' => e = .returned (.int .i64 (szLeft n left)) ∧ w = w' := by
  unfold maxLen at hn
  by_cases h : left - n < 0
  · have HT := Lib.hid (show -1 = szLeft n left by rw [szLeft, if_pos h])
    go_enter Try.func62, Try.ntmps62
    go_wp2
    go_ret
    exact ⟨ret_int HT.out, rfl⟩
  · have HT := Lib.hid (show left - n = szLeft n left by rw [szLeft, if_neg h])
    go_enter Try.func62, Try.ntmps62
    go_wp2
    go_ret
    exact ⟨ret_int HT.out, rfl⟩
theorem made_zeroI (n : Nat) : (madeCells #[Value.int .i64 0] n).toList = List.replicate n (.int .i64 0) := by
  apply List.ext_getElem?
  intro j
  by_cases hj : j < n
  · rw [List.getElem?_replicate, if_pos hj]
    simp [madeCells, Value.cells, hj, Nat.mod_one]
  · rw [List.getElem?_eq_none (by simpa [madeCells] using hj), List.getElem?_replicate, if_neg hj]
theorem madeI (n : Nat) (hn : n ≤ 1000000000) (w : World) : (Instr.makeSlice 43 (.int .i64 n) (.int .i64 n)).run Try.prog w = .ok (.slice (some ⟨w.heap.size, 0, none⟩) n n) (w.alloc (.cells (madeCells #[Value.int .i64 0] n) 3)) := by
  obtain ⟨i, hi, hz, hs, hb⟩ := info_parts int_info
  have h := run_make (P := Try.prog) w 43 3 i _ Try.underlying43 hi hz .i64 .i64 n n (by omega) (by omega) (by rw [hb]; omega) (by omega)
  rw [hs, Nat.mul_one] at h
  simpa [Value.cells] using h
theorem ints_rep (n : Nat) : ints (List.replicate n 0) = List.replicate n (.int .i64 0) := by simp [ints]
theorem own_madeI (w : World) (n : Nat) (hn : n ≤ 1000000000) : OwnI (w.alloc (.cells (madeCells #[Value.int .i64 0] n) 3)) w.heap.size (.slice (some ⟨w.heap.size, 0, none⟩) n n) (List.replicate n 0) := by
  unfold OwnI
  rw [List.length_replicate]
  refine ⟨by rw [ints_len, List.length_replicate]; omega, .inr ⟨w.heap.size, n, _, rfl, Nat.le_refl _, heap_alloc_new w _, Nat.le_refl _, by simp only [maxLen]; omega, by rw [size_madeCells, Nat.mul_one], ?_⟩⟩
  rw [made_zeroI, ints_rep, List.take_of_length_le (by simp)]
/-- The copy when i numbers are copied. -/
def partI (l : List Int) (n i : Nat) : List Int := l.take i ++ List.replicate (n - i) 0
theorem partI_zero (l : List Int) (n : Nat) : partI l n 0 = List.replicate n 0 := by simp [partI]
theorem partI_all {l : List Int} {n : Nat} (h : l.length = n) : partI l n n = l := by simp [partI, ← h]
theorem partI_len {l : List Int} {n i : Nat} (h : l.length = n) (hi : i ≤ n) : (partI l n i).length = n := by simp [partI]; omega
theorem partI_set {l : List Int} {n i : Nat} {x : Int} (h : l.length = n) (hi : i < n) (hx : l[i]? = some x) : (partI l n i).set i x = partI l n (i + 1) := by
  unfold partI
  rw [List.set_append_right _ _ (by simp; omega), take_snoc hx, List.append_assoc]
  have e : i - (l.take i).length = 0 := by simp; omega
  rw [e, show n - i = (n - (i + 1)) + 1 by omega, List.replicate_succ]
  rfl

set_option maxRecDepth 100000 in
set_option maxHeartbeats 2000000 in
theorem to_ints (l : List Int) (p : Option Addr) (n c : Nat) (w : World) (hn : l.length = n) (hl : n ≤ 1000000000) (hr : Rd w p (ints l)) :
    Calls Try.prog 67 #[.slice p n c] w fun e w' => ∃ v, e = .returned v ∧ OwnI w' w.heap.size v l ∧ Below w.heap.size w w' := by
  have HN := Lib.hid hn
  have HR := Lib.hid hr
  have hmk := madeI n hl
  clear hn hr
  go_enter Try.func67, Try.ntmps67
  go_wp2_with fail
  clear hmk
  go_loopw [4] (fun i wr => ∃ k : Nat, k ≤ n ∧ i = .int .i64 k ∧ Hid (OwnI wr w.heap.size (.slice (some ⟨w.heap.size, 0, none⟩) n n) (partI l n k)) ∧ Hid (Below w.heap.size w wr)) (fun i _ => n - (intOf i).toNat)
  case atStart => exact ⟨0, Nat.zero_le _, rfl, by rw [partI_zero]; exact own_madeI w n hl, (Below.refl _ _).alloc (Nat.le_refl _) _⟩
  case round =>
    obtain ⟨k, hk, rfl, HO, HB⟩ := hrel
    by_cases hlt : k < n
    · obtain ⟨b, o, x, rfl, hb, hx, c0⟩ := (HR.out.below HB.out).int (k := k) (by rw [HN.out]; exact hlt)
      have HX := Lib.hid hx
      have b0 : (0 : Int) ≤ (k : Int) := by omega
      have b1 : (k : Int) < (n : Int) := by omega
      clear hx
      have HP := Lib.hid (partI_set (n := n) HN.out hlt HX.out)
      obtain ⟨y, hy, d0, hf, hB, hg⟩ := HO.out.slot (partI_len HN.out hk) k hlt
      clear hy
      have HS := Lib.hid (HO.out.store (partI_len HN.out hk) k x)
      rw [HP.out] at HS
      have HB2 := Lib.hid (HB.out.setCell (p := ⟨w.heap.size, k, none⟩) (Nat.le_refl _) (.int .i64 x))
      clear HO
      go_wp2_with fail
      go_roundw
      case rel => exact ⟨k + 1, by omega, by go_num, HS, HB2⟩
      case measure => simp [intOf]; omega
    · obtain rfl : k = n := by omega
      rw [partI_all HN.out] at HO
      go_wp2_with fail
      go_ret
      exact ⟨_, rfl, HO.out, HB.out⟩

/-! Games. -/
def szG (n ns nw : Nat) (left : Int) : Int := if left - n < 0 then -1 else if left - n - ns < 0 then -1 else if left - n - ns - nw < 0 then -1 else left - n - ns - nw
theorem szG_yes {n ns nw : Nat} (h : 0 ≤ szG n ns nw 1048576) : n ≤ 1000000000 ∧ ns ≤ 1000000000 ∧ nw ≤ 1000000000 ∧ szG n ns nw 1048576 ≤ 1048576 ∧ n + ns + nw ≤ 1048576 := by
  unfold szG at h ⊢
  split at h
  · omega
  · split at h
    · omega
    · split at h
      · omega
      · rw [if_neg (by assumption), if_neg (by assumption), if_neg (by assumption)]; omega

set_option maxHeartbeats 1000000 in
theorem sz_game (s nx : Int) (p ps pw : Option Addr) (n c ns cs nw cw : Nat) (left : Int) (w : World) (h0 : 0 ≤ left) (h1 : left ≤ 1048576) (hn : n ≤ maxLen) (hs : ns ≤ maxLen) (hw : nw ≤ maxLen) :
    Calls Try.prog 26 #[gval s nx (.slice p n c) (.slice ps ns cs) (.slice pw nw cw), .int .i64 left] w fun e w' => e = .returned (.int .i64 (szG n ns nw left)) ∧ Below w.heap.size w w' := by
  have HD := Lib.hid (fun w => sz_deal s nx p n c left w h0 h1 hn)
  by_cases g1 : left - n < 0
  · have HT := Lib.hid (show -1 = szG n ns nw left by rw [szG, if_pos g1])
    have HD := HD.out
    rw [show szLeft n left = -1 by rw [szLeft, if_pos g1]] at HD
    have HD := Lib.hid HD
    clear g1
    go_enter Try.func26, Try.ntmps26
    go_wp2_with fail
    refine ((HD.out _)).mono ?_
    rintro e w1 ⟨rfl, b⟩
    have Sw1 := Lib.hid b.size
    have HB := Lib.hid (chain0 (w := w) (by repeat (first | with_reducible exact Below.refl _ _ | with_reducible exact HB.out | with_reducible apply Below.drew | with_reducible apply bdN | with_reducible refine Below.alloc ?_ (by first | exact Nat.le_refl _ | with_reducible exact HB.out.size | omega | (simp; done) | (simp; omega) | (have := HB.out.size; simp at *; omega)) _ | with_reducible refine Below.setCell ?_ (by first | exact Nat.le_refl _ | with_reducible exact HB.out.size | omega | (simp; done) | (simp; omega) | (have := HB.out.size; simp at *; omega)) _)) b)
    have K0 : Hid (GBox _ (w.heap.size) (⟨45, s, nx, .slice p n c, .slice ps ns cs, .slice pw nw cw⟩)) := Lib.hid (GBox.below (by repeat (first | with_reducible exact K0.out | with_reducible apply GBox.drewN | with_reducible apply GBox.drew | (with_reducible refine GBox.newAt ?_ ?_ <;> first | (simp; done) | rfl) | with_reducible apply GBox.alloc)) b)
    try clear k0a k0b k0c k0d k0e k0z
    have k0z := K0.out.lt
    obtain ⟨k0a, k0b, k0c, k0d, k0e⟩ := K0.out.cell
    clear b
    go_wp2_with fail
    go_ret
    exact ⟨ret_int HT.out, by repeat (first | with_reducible exact Below.refl _ _ | with_reducible exact HB.out | with_reducible apply Below.drew | with_reducible apply bdN | with_reducible refine Below.alloc ?_ (by first | exact Nat.le_refl _ | with_reducible exact HB.out.size | omega | (simp; done) | (simp; omega) | (have := HB.out.size; simp at *; omega)) _ | with_reducible refine Below.setCell ?_ (by first | exact Nat.le_refl _ | with_reducible exact HB.out.size | omega | (simp; done) | (simp; omega) | (have := HB.out.size; simp at *; omega)) _)⟩
  · obtain ⟨l1, hl1⟩ : ∃ l1 : Int, left - n = l1 := ⟨_, rfl⟩
    have q0 : 0 ≤ l1 := by omega
    have q1 : ¬ l1 < 0 := by omega
    have HS := Lib.hid (fun w => sz_ints ps ns cs l1 w q0 (by omega) hs)
    have HD := HD.out
    rw [show szLeft n left = l1 by rw [szLeft, if_neg g1, hl1]] at HD
    have HD := Lib.hid HD
    by_cases g2 : l1 - ns < 0
    · have HT := Lib.hid (show -1 = szG n ns nw left by rw [szG, if_neg g1, hl1, if_pos g2])
      have HS := HS.out
      rw [show szLeft ns l1 = -1 by rw [szLeft, if_pos g2]] at HS
      have HS := Lib.hid HS
      clear g1 g2 hl1
      go_enter Try.func26, Try.ntmps26
      go_wp2_with fail
      refine ((HD.out _)).mono ?_
      rintro e w1 ⟨rfl, b⟩
      have Sw1 := Lib.hid b.size
      have HB := Lib.hid (chain0 (w := w) (by repeat (first | with_reducible exact Below.refl _ _ | with_reducible exact HB.out | with_reducible apply Below.drew | with_reducible apply bdN | with_reducible refine Below.alloc ?_ (by first | exact Nat.le_refl _ | with_reducible exact HB.out.size | omega | (simp; done) | (simp; omega) | (have := HB.out.size; simp at *; omega)) _ | with_reducible refine Below.setCell ?_ (by first | exact Nat.le_refl _ | with_reducible exact HB.out.size | omega | (simp; done) | (simp; omega) | (have := HB.out.size; simp at *; omega)) _)) b)
      have K0 : Hid (GBox _ (w.heap.size) (⟨45, s, nx, .slice p n c, .slice ps ns cs, .slice pw nw cw⟩)) := Lib.hid (GBox.below (by repeat (first | with_reducible exact K0.out | with_reducible apply GBox.drewN | with_reducible apply GBox.drew | (with_reducible refine GBox.newAt ?_ ?_ <;> first | (simp; done) | rfl) | with_reducible apply GBox.alloc)) b)
      try clear k0a k0b k0c k0d k0e k0z
      have k0z := K0.out.lt
      obtain ⟨k0a, k0b, k0c, k0d, k0e⟩ := K0.out.cell
      clear b
      go_wp2_with fail
      refine (HS.out _).mono ?_
      rintro e w2 ⟨rfl, rfl⟩
      go_wp2_with fail
      go_ret
      exact ⟨ret_int HT.out, by repeat (first | with_reducible exact Below.refl _ _ | with_reducible exact HB.out | with_reducible apply Below.drew | with_reducible apply bdN | with_reducible refine Below.alloc ?_ (by first | exact Nat.le_refl _ | with_reducible exact HB.out.size | omega | (simp; done) | (simp; omega) | (have := HB.out.size; simp at *; omega)) _ | with_reducible refine Below.setCell ?_ (by first | exact Nat.le_refl _ | with_reducible exact HB.out.size | omega | (simp; done) | (simp; omega) | (have := HB.out.size; simp at *; omega)) _)⟩
    · obtain ⟨l2, hl2⟩ : ∃ l2 : Int, l1 - ns = l2 := ⟨_, rfl⟩
      have q2 : 0 ≤ l2 := by omega
      have q3 : ¬ l2 < 0 := by omega
      have HW := Lib.hid (fun w => sz_ints pw nw cw l2 w q2 (by omega) hw)
      have HS := HS.out
      rw [show szLeft ns l1 = l2 by rw [szLeft, if_neg g2, hl2]] at HS
      have HS := Lib.hid HS
      have HT := Lib.hid (show szLeft nw l2 = szG n ns nw left by rw [szG, if_neg g1, hl1, if_neg g2, hl2]; rfl)
      have hb : szLeft nw l2 = -1 ∨ 0 ≤ szLeft nw l2 := by unfold szLeft; split <;> omega
      obtain ⟨l3, hl3⟩ : ∃ l3 : Int, szLeft nw l2 = l3 := ⟨_, rfl⟩
      rw [hl3] at HT HW hb
      clear g1 g2 hl1 hl2 hl3
      rcases hb with rfl | hb
      · go_enter Try.func26, Try.ntmps26
        go_wp2_with fail
        refine ((HD.out _)).mono ?_
        rintro e w1 ⟨rfl, b⟩
        have Sw1 := Lib.hid b.size
        have HB := Lib.hid (chain0 (w := w) (by repeat (first | with_reducible exact Below.refl _ _ | with_reducible exact HB.out | with_reducible apply Below.drew | with_reducible apply bdN | with_reducible refine Below.alloc ?_ (by first | exact Nat.le_refl _ | with_reducible exact HB.out.size | omega | (simp; done) | (simp; omega) | (have := HB.out.size; simp at *; omega)) _ | with_reducible refine Below.setCell ?_ (by first | exact Nat.le_refl _ | with_reducible exact HB.out.size | omega | (simp; done) | (simp; omega) | (have := HB.out.size; simp at *; omega)) _)) b)
        have K0 : Hid (GBox _ (w.heap.size) (⟨45, s, nx, .slice p n c, .slice ps ns cs, .slice pw nw cw⟩)) := Lib.hid (GBox.below (by repeat (first | with_reducible exact K0.out | with_reducible apply GBox.drewN | with_reducible apply GBox.drew | (with_reducible refine GBox.newAt ?_ ?_ <;> first | (simp; done) | rfl) | with_reducible apply GBox.alloc)) b)
        try clear k0a k0b k0c k0d k0e k0z
        have k0z := K0.out.lt
        obtain ⟨k0a, k0b, k0c, k0d, k0e⟩ := K0.out.cell
        clear b
        go_wp2_with fail
        refine (HS.out _).mono ?_
        rintro e w2 ⟨rfl, rfl⟩
        go_wp2_with fail
        refine (HW.out _).mono ?_
        rintro e w3 ⟨rfl, rfl⟩
        go_wp2_with fail
        go_ret
        exact ⟨ret_int HT.out, by repeat (first | with_reducible exact Below.refl _ _ | with_reducible exact HB.out | with_reducible apply Below.drew | with_reducible apply bdN | with_reducible refine Below.alloc ?_ (by first | exact Nat.le_refl _ | with_reducible exact HB.out.size | omega | (simp; done) | (simp; omega) | (have := HB.out.size; simp at *; omega)) _ | with_reducible refine Below.setCell ?_ (by first | exact Nat.le_refl _ | with_reducible exact HB.out.size | omega | (simp; done) | (simp; omega) | (have := HB.out.size; simp at *; omega)) _)⟩
      · have q4 : ¬ l3 < 0 := by omega
        go_enter Try.func26, Try.ntmps26
        go_wp2_with fail
        refine ((HD.out _)).mono ?_
        rintro e w1 ⟨rfl, b⟩
        have Sw1 := Lib.hid b.size
        have HB := Lib.hid (chain0 (w := w) (by repeat (first | with_reducible exact Below.refl _ _ | with_reducible exact HB.out | with_reducible apply Below.drew | with_reducible apply bdN | with_reducible refine Below.alloc ?_ (by first | exact Nat.le_refl _ | with_reducible exact HB.out.size | omega | (simp; done) | (simp; omega) | (have := HB.out.size; simp at *; omega)) _ | with_reducible refine Below.setCell ?_ (by first | exact Nat.le_refl _ | with_reducible exact HB.out.size | omega | (simp; done) | (simp; omega) | (have := HB.out.size; simp at *; omega)) _)) b)
        have K0 : Hid (GBox _ (w.heap.size) (⟨45, s, nx, .slice p n c, .slice ps ns cs, .slice pw nw cw⟩)) := Lib.hid (GBox.below (by repeat (first | with_reducible exact K0.out | with_reducible apply GBox.drewN | with_reducible apply GBox.drew | (with_reducible refine GBox.newAt ?_ ?_ <;> first | (simp; done) | rfl) | with_reducible apply GBox.alloc)) b)
        try clear k0a k0b k0c k0d k0e k0z
        have k0z := K0.out.lt
        obtain ⟨k0a, k0b, k0c, k0d, k0e⟩ := K0.out.cell
        clear b
        go_wp2_with fail
        refine (HS.out _).mono ?_
        rintro e w2 ⟨rfl, rfl⟩
        go_wp2_with fail
        refine (HW.out _).mono ?_
        rintro e w3 ⟨rfl, rfl⟩
        go_wp2_with fail
        go_ret
        exact ⟨ret_int HT.out, by repeat (first | with_reducible exact Below.refl _ _ | with_reducible exact HB.out | with_reducible apply Below.drew | with_reducible apply bdN | with_reducible refine Below.alloc ?_ (by first | exact Nat.le_refl _ | with_reducible exact HB.out.size | omega | (simp; done) | (simp; omega) | (have := HB.out.size; simp at *; omega)) _ | with_reducible refine Below.setCell ?_ (by first | exact Nat.le_refl _ | with_reducible exact HB.out.size | omega | (simp; done) | (simp; omega) | (have := HB.out.size; simp at *; omega)) _)⟩

set_option maxRecDepth 100000 in
set_option maxHeartbeats 2000000 in
theorem to_game (s nx : Int) (l : List Cd) (sc wr : List Int) (p ps pw : Option Addr) (n c ns cs nw cw : Nat) (w : World) (hn : l.length = n) (hs : sc.length = ns) (hw : wr.length = nw) (hl : n ≤ 2000000) (hls : ns ≤ 2000000) (hlw : nw ≤ 2000000) (hwf : ∀ x ∈ l, wfc x) (hr : RdG w p ps pw l sc wr) :
    Calls Try.prog 28 #[gval s nx (.slice p n c) (.slice ps ns cs) (.slice pw nw cw)] w fun e w' => ∃ p' c' ps' cs' pw' cw', e = .returned (gval s nx (.slice p' n c') (.slice ps' ns cs') (.slice pw' nw cw')) ∧ OwnG w' w.heap.size w'.heap.size (.slice p' n c') (.slice ps' ns cs') (.slice pw' nw cw') l sc wr ∧ RdG w' p' ps' pw' l sc wr ∧ FitG n c' ns cs' nw cw' p' ps' pw' ⟨s, nx, l, sc, wr⟩ ∧ Below w.heap.size w w' := by
  have HN := Lib.hid hn
  have HS := Lib.hid hs
  have HW := Lib.hid hw
  have HR := Lib.hid hr
  have HR0 := Lib.hid hr
  have HWf := Lib.hid hwf
  clear hn hs hw hr hwf
  go_enter Try.func28, Try.ntmps28
  go_wp2_with fail
  refine (to_deal s nx l p n c _ HN.out (by omega) (RdG.a (by repeat (first | with_reducible exact HR.out | with_reducible apply RdG.drewN | with_reducible apply RdG.drew | with_reducible apply RdG.alloc)))).mono ?_
  rintro e w1 ⟨p', c', rfl, ho, hr, hc, b⟩
  have Sw1 := Lib.hid b.size
  have HB := Lib.hid (chain0 (w := w) (by repeat (first | with_reducible exact Below.refl _ _ | with_reducible exact HB.out | with_reducible apply Below.drew | with_reducible apply bdN | with_reducible refine Below.alloc ?_ (by first | exact Nat.le_refl _ | with_reducible exact HB.out.size | omega | (simp; done) | (simp; omega) | (have := HB.out.size; simp at *; omega)) _ | with_reducible refine Below.setCell ?_ (by first | exact Nat.le_refl _ | with_reducible exact HB.out.size | omega | (simp; done) | (simp; omega) | (have := HB.out.size; simp at *; omega)) _)) b)
  have HR := Lib.hid (RdG.below (by repeat (first | with_reducible exact HR.out | with_reducible apply RdG.drewN | with_reducible apply RdG.drew | with_reducible apply RdG.alloc)) b)
  have K1 : Hid (GBox _ (w.heap.size) (⟨45, s, nx, .slice p n c, .slice ps ns cs, .slice pw nw cw⟩)) := Lib.hid (GBox.below (by repeat (first | with_reducible exact K1.out | with_reducible apply GBox.drewN | with_reducible apply GBox.drew | (with_reducible refine GBox.newAt ?_ ?_ <;> first | (simp; done) | rfl) | with_reducible apply GBox.alloc)) b)
  have K2 : Hid (GBox _ (w.heap.size + 1) (⟨51, 0, 0, .slice none 0 0, .slice none 0 0, .slice none 0 0⟩)) := Lib.hid (GBox.below (by repeat (first | with_reducible exact K2.out | with_reducible apply GBox.drewN | with_reducible apply GBox.drew | (with_reducible refine GBox.newAt ?_ ?_ <;> first | (simp; done) | rfl) | with_reducible apply GBox.alloc)) b)
  have K3 : Hid (GBox _ (w.heap.size + 1 + 1) (⟨51, 0, 0, .slice none 0 0, .slice none 0 0, .slice none 0 0⟩)) := Lib.hid (GBox.below (by repeat (first | with_reducible exact K3.out | with_reducible apply GBox.drewN | with_reducible apply GBox.drew | (with_reducible refine GBox.newAt ?_ ?_ <;> first | (simp; done) | rfl) | with_reducible apply GBox.alloc)) b)
  try clear k1a k1b k1c k1d k1e k1z
  have k1z := K1.out.lt
  obtain ⟨k1a, k1b, k1c, k1d, k1e⟩ := K1.out.cell
  try clear k2a k2b k2c k2d k2e k2z
  have k2z := K2.out.lt
  obtain ⟨k2a, k2b, k2c, k2d, k2e⟩ := K2.out.cell
  try clear k2f
  have k2f := K2.out.frozen
  try clear k3a k3b k3c k3d k3e k3z
  have k3z := K3.out.lt
  obtain ⟨k3a, k3b, k3c, k3d, k3e⟩ := K3.out.cell
  try clear k3f
  have k3f := K3.out.frozen
  clear b
  have HZ1 := Lib.hid (show w.heap.size + 1 + 1 + 1 ≤ w1.heap.size from K3.out.lt)
  have k3f := K3.out.frozen
  have HO : Hid (Own w1 (w.heap.size + 3) (.slice p' n c') l) := Lib.hid (ho.base (by simp))
  have HOb1 := Lib.hid (fun g e => (ho.span g e).2)
  clear ho hr
  obtain ⟨W1, hW1⟩ : ∃ W1, W1 = ((w1.setCell ⟨w.heap.size + 1 + 1, 0, none⟩ (.int .i64 s)).setCell ⟨w.heap.size + 1 + 1, 1, none⟩ (.int .i64 nx)).setCell ⟨w.heap.size + 1 + 1, 2, none⟩ (.slice p' n c') := ⟨_, rfl⟩
  have HK3 := Lib.hid (((K3.out.set0 s).set1 nx).set2 (.slice p' n c'))
  have HK2 := Lib.hid (((K2.out.farW (show w.heap.size + 1 ≠ w.heap.size + 1 + 1 by omega) 0 (.int .i64 s)).farW (show w.heap.size + 1 ≠ w.heap.size + 1 + 1 by omega) 1 (.int .i64 nx)).farW (show w.heap.size + 1 ≠ w.heap.size + 1 + 1 by omega) 2 (.slice p' n c'))
  have HK1 := Lib.hid (((K1.out.farW (show w.heap.size ≠ w.heap.size + 1 + 1 by omega) 0 (.int .i64 s)).farW (show w.heap.size ≠ w.heap.size + 1 + 1 by omega) 1 (.int .i64 nx)).farW (show w.heap.size ≠ w.heap.size + 1 + 1 by omega) 2 (.slice p' n c'))
  have HO1 := Lib.hid (Own.far (Own.far (Own.far HO.out (p := ⟨w.heap.size + 1 + 1, 0, none⟩) (show w.heap.size + 1 + 1 < w.heap.size + 3 by omega) (.int .i64 s)) (p := ⟨w.heap.size + 1 + 1, 1, none⟩) (show w.heap.size + 1 + 1 < w.heap.size + 3 by omega) (.int .i64 nx)) (p := ⟨w.heap.size + 1 + 1, 2, none⟩) (show w.heap.size + 1 + 1 < w.heap.size + 3 by omega) (.slice p' n c'))
  have HB1 := Lib.hid (((HB.out.setCell (p := ⟨w.heap.size + 1 + 1, 0, none⟩) (show w.heap.size ≤ w.heap.size + 1 + 1 by omega) (.int .i64 s)).setCell (p := ⟨w.heap.size + 1 + 1, 1, none⟩) (show w.heap.size ≤ w.heap.size + 1 + 1 by omega) (.int .i64 nx)).setCell (p := ⟨w.heap.size + 1 + 1, 2, none⟩) (show w.heap.size ≤ w.heap.size + 1 + 1 by omega) (.slice p' n c'))
  have HOb0 : Hid (∀ g, (Value.slice p' n c').ownBlock = some g → g < (((w1.setCell ⟨w.heap.size + 1 + 1, 0, none⟩ (.int .i64 s)).setCell ⟨w.heap.size + 1 + 1, 1, none⟩ (.int .i64 nx)).setCell ⟨w.heap.size + 1 + 1, 2, none⟩ (.slice p' n c')).heap.size) := Lib.hid (fun g e => by have := HOb1.out g e; simpa [World.setCell] using this)
  have HC := Lib.hid hc
  clear hc HOb1
  go_upto_region 3 with fail
  rw [← hW1] at HK3 HK2 HK1 HO1 HB1 HOb0 ⊢
  clear hW1 HO K1 K2 K3 k1a k1b k1c k1d k1e k1z k2a k2b k2c k2d k2e k2z k2f k3a k3b k3c k3d k3e k3z k3f HB HZ1
  have HB := Lib.hid HB1.out
  have K1 := Lib.hid HK1.out
  have K2 := Lib.hid HK2.out
  have K3 := Lib.hid HK3.out
  clear HB1 HK1 HK2 HK3
  have HR := Lib.hid (RdG.below HR0.out HB.out)
  obtain ⟨k1a, k1b, k1c, k1d, k1e⟩ := K1.out.cell
  have k1z := K1.out.lt
  obtain ⟨k2a, k2b, k2c, k2d, k2e⟩ := K2.out.cell
  have k2z := K2.out.lt
  have k2f := K2.out.frozen
  obtain ⟨k3a, k3b, k3c, k3d, k3e⟩ := K3.out.cell
  have k3z := K3.out.lt
  have k3f := K3.out.frozen
  go_wp2_with fail
  refine (to_ints sc ps ns cs _ HS.out (by omega) HR.out.b).mono ?_
  rintro e w2 ⟨v2, rfl, h2, b⟩
  obtain ⟨ps', cs', rfl, hcs, _⟩ := h2.form
  rw [HS.out] at h2 hcs ⊢
  have HZ2 := Lib.hid (show w.heap.size + 1 + 1 + 1 ≤ W1.heap.size from K3.out.lt)
  have HT1 := Lib.hid b.size
  have Sw2 := Lib.hid b.size
  have HB := Lib.hid (chain0 (w := w) (by repeat (first | with_reducible exact Below.refl _ _ | with_reducible exact HB.out | with_reducible apply Below.drew | with_reducible apply bdN | with_reducible refine Below.alloc ?_ (by first | exact Nat.le_refl _ | with_reducible exact HB.out.size | omega | (simp; done) | (simp; omega) | (have := HB.out.size; simp at *; omega)) _ | with_reducible refine Below.setCell ?_ (by first | exact Nat.le_refl _ | with_reducible exact HB.out.size | omega | (simp; done) | (simp; omega) | (have := HB.out.size; simp at *; omega)) _)) b)
  have HR := Lib.hid (RdG.below (by repeat (first | with_reducible exact HR.out | with_reducible apply RdG.drewN | with_reducible apply RdG.drew | with_reducible apply RdG.alloc)) b)
  have HO1 := Lib.hid (Own.below (by repeat (first | with_reducible exact HO1.out | with_reducible apply Own.drewN | with_reducible apply Own.drew | with_reducible apply Own.alloc)) b)
  have K1 : Hid (GBox _ (w.heap.size) (⟨45, s, nx, .slice p n c, .slice ps ns cs, .slice pw nw cw⟩)) := Lib.hid (GBox.below (by repeat (first | with_reducible exact K1.out | with_reducible apply GBox.drewN | with_reducible apply GBox.drew | (with_reducible refine GBox.newAt ?_ ?_ <;> first | (simp; done) | rfl) | with_reducible apply GBox.alloc)) b)
  have K2 : Hid (GBox _ (w.heap.size + 1) (⟨51, 0, 0, .slice none 0 0, .slice none 0 0, .slice none 0 0⟩)) := Lib.hid (GBox.below (by repeat (first | with_reducible exact K2.out | with_reducible apply GBox.drewN | with_reducible apply GBox.drew | (with_reducible refine GBox.newAt ?_ ?_ <;> first | (simp; done) | rfl) | with_reducible apply GBox.alloc)) b)
  have K3 : Hid (GBox _ (w.heap.size + 1 + 1) (⟨51, s, nx, .slice p' n c', .slice none 0 0, .slice none 0 0⟩)) := Lib.hid (GBox.below (by repeat (first | with_reducible exact K3.out | with_reducible apply GBox.drewN | with_reducible apply GBox.drew | (with_reducible refine GBox.newAt ?_ ?_ <;> first | (simp; done) | rfl) | with_reducible apply GBox.alloc)) b)
  try clear k1a k1b k1c k1d k1e k1z
  have k1z := K1.out.lt
  obtain ⟨k1a, k1b, k1c, k1d, k1e⟩ := K1.out.cell
  try clear k2a k2b k2c k2d k2e k2z
  have k2z := K2.out.lt
  obtain ⟨k2a, k2b, k2c, k2d, k2e⟩ := K2.out.cell
  try clear k2f
  have k2f := K2.out.frozen
  try clear k3a k3b k3c k3d k3e k3z
  have k3z := K3.out.lt
  obtain ⟨k3a, k3b, k3c, k3d, k3e⟩ := K3.out.cell
  try clear k3f
  have k3f := K3.out.frozen
  clear b
  have HOb : Hid (∀ g, (Value.slice p' n c').ownBlock = some g → g < W1.heap.size) := HOb0
  have HOc1 := Lib.hid (fun g e => (h2.span g e).2)
  have HO2 := Lib.hid h2
  have HCs := Lib.hid hcs
  clear h2 hcs
  obtain ⟨W2, hW2⟩ : ∃ W2, W2 = w2.setCell ⟨w.heap.size + 1 + 1, 3, none⟩ (.slice ps' ns cs') := ⟨_, rfl⟩
  have HK3 := Lib.hid (K3.out.set3 (.slice ps' ns cs'))
  have HK2 := Lib.hid (K2.out.farW (show w.heap.size + 1 ≠ w.heap.size + 1 + 1 by omega) 3 (.slice ps' ns cs'))
  have HK1 := Lib.hid (K1.out.farW (show w.heap.size ≠ w.heap.size + 1 + 1 by omega) 3 (.slice ps' ns cs'))
  have HO1' := Lib.hid (Own.far HO1.out (p := ⟨w.heap.size + 1 + 1, 3, none⟩) (show w.heap.size + 1 + 1 < w.heap.size + 3 by omega) (.slice ps' ns cs'))
  have HO2' := Lib.hid (OwnI.farB HO2.out (p := ⟨w.heap.size + 1 + 1, 3, none⟩) (show w.heap.size + 1 + 1 < W1.heap.size from HZ2.out) (.slice ps' ns cs'))
  have HB2 := Lib.hid (HB.out.setCell (p := ⟨w.heap.size + 1 + 1, 3, none⟩) (show w.heap.size ≤ w.heap.size + 1 + 1 by omega) (.slice ps' ns cs'))
  have HOc : Hid (∀ g, (Value.slice ps' ns cs').ownBlock = some g → g < (w2.setCell ⟨w.heap.size + 1 + 1, 3, none⟩ (.slice ps' ns cs')).heap.size) := Lib.hid (fun g e => by have := HOc1.out g e; simpa [World.setCell] using this)
  have HSz : Hid (w2.heap.size = (w2.setCell ⟨w.heap.size + 1 + 1, 3, none⟩ (.slice ps' ns cs')).heap.size) := Lib.hid (by simp [World.setCell])
  go_upto_region 4 with fail
  rw [← hW2] at HK3 HK2 HK1 HO1' HO2' HB2 HSz HOc ⊢
  clear hW2 HO1 HO2 K1 K2 K3 k1a k1b k1c k1d k1e k1z k2a k2b k2c k2d k2e k2z k2f k3a k3b k3c k3d k3e k3z k3f HB
  have HB := Lib.hid HB2.out
  have K1 := Lib.hid HK1.out
  have K2 := Lib.hid HK2.out
  have K3 := Lib.hid HK3.out
  have HO1 := Lib.hid HO1'.out
  have HO2 := Lib.hid HO2'.out
  clear HB2 HK1 HK2 HK3 HO1' HO2'
  have HR := Lib.hid (RdG.below HR0.out HB.out)
  obtain ⟨k1a, k1b, k1c, k1d, k1e⟩ := K1.out.cell
  have k1z := K1.out.lt
  obtain ⟨k2a, k2b, k2c, k2d, k2e⟩ := K2.out.cell
  have k2z := K2.out.lt
  have k2f := K2.out.frozen
  obtain ⟨k3a, k3b, k3c, k3d, k3e⟩ := K3.out.cell
  have k3z := K3.out.lt
  have k3f := K3.out.frozen
  go_wp2_with fail
  refine (to_ints wr pw nw cw _ HW.out (by omega) HR.out.c).mono ?_
  rintro e w3 ⟨v3, rfl, h3, b⟩
  obtain ⟨pw', cw', rfl, hcw, _⟩ := h3.form
  rw [HW.out] at h3 hcw ⊢
  have HT2 := Lib.hid b.size
  have Sw3 := Lib.hid b.size
  have HB := Lib.hid (chain0 (w := w) (by repeat (first | with_reducible exact Below.refl _ _ | with_reducible exact HB.out | with_reducible apply Below.drew | with_reducible apply bdN | with_reducible refine Below.alloc ?_ (by first | exact Nat.le_refl _ | with_reducible exact HB.out.size | omega | (simp; done) | (simp; omega) | (have := HB.out.size; simp at *; omega)) _ | with_reducible refine Below.setCell ?_ (by first | exact Nat.le_refl _ | with_reducible exact HB.out.size | omega | (simp; done) | (simp; omega) | (have := HB.out.size; simp at *; omega)) _)) b)
  have HR := Lib.hid (RdG.below (by repeat (first | with_reducible exact HR.out | with_reducible apply RdG.drewN | with_reducible apply RdG.drew | with_reducible apply RdG.alloc)) b)
  have HO1 := Lib.hid (Own.below (by repeat (first | with_reducible exact HO1.out | with_reducible apply Own.drewN | with_reducible apply Own.drew | with_reducible apply Own.alloc)) b)
  have HO2 := Lib.hid (OwnI.below (by repeat (first | with_reducible exact HO2.out | with_reducible apply OwnI.drewN | with_reducible apply OwnI.drew | with_reducible apply OwnI.alloc)) b)
  have K1 : Hid (GBox _ (w.heap.size) (⟨45, s, nx, .slice p n c, .slice ps ns cs, .slice pw nw cw⟩)) := Lib.hid (GBox.below (by repeat (first | with_reducible exact K1.out | with_reducible apply GBox.drewN | with_reducible apply GBox.drew | (with_reducible refine GBox.newAt ?_ ?_ <;> first | (simp; done) | rfl) | with_reducible apply GBox.alloc)) b)
  have K2 : Hid (GBox _ (w.heap.size + 1) (⟨51, 0, 0, .slice none 0 0, .slice none 0 0, .slice none 0 0⟩)) := Lib.hid (GBox.below (by repeat (first | with_reducible exact K2.out | with_reducible apply GBox.drewN | with_reducible apply GBox.drew | (with_reducible refine GBox.newAt ?_ ?_ <;> first | (simp; done) | rfl) | with_reducible apply GBox.alloc)) b)
  have K3 : Hid (GBox _ (w.heap.size + 1 + 1) (⟨51, s, nx, .slice p' n c', .slice ps' ns cs', .slice none 0 0⟩)) := Lib.hid (GBox.below (by repeat (first | with_reducible exact K3.out | with_reducible apply GBox.drewN | with_reducible apply GBox.drew | (with_reducible refine GBox.newAt ?_ ?_ <;> first | (simp; done) | rfl) | with_reducible apply GBox.alloc)) b)
  try clear k1a k1b k1c k1d k1e k1z
  have k1z := K1.out.lt
  obtain ⟨k1a, k1b, k1c, k1d, k1e⟩ := K1.out.cell
  try clear k2a k2b k2c k2d k2e k2z
  have k2z := K2.out.lt
  obtain ⟨k2a, k2b, k2c, k2d, k2e⟩ := K2.out.cell
  try clear k2f
  have k2f := K2.out.frozen
  try clear k3a k3b k3c k3d k3e k3z
  have k3z := K3.out.lt
  obtain ⟨k3a, k3b, k3c, k3d, k3e⟩ := K3.out.cell
  try clear k3f
  have k3f := K3.out.frozen
  clear b
  have HG := Lib.hid (show OwnG w3 (w.heap.size + 3) w3.heap.size (.slice p' n c') (.slice ps' ns cs') (.slice pw' nw cw') l sc wr from by
    have t1 := HT1.out
    have t2 := HT2.out
    have t3 := HZ2.out
    have t4 := HSz.out
    have t0 := HOb.out
    refine ⟨HO1.out, OwnI.base HO2.out (by omega), OwnI.base h3 (by omega), fun g e1 e2 => ?_, fun g e1 e2 => ?_, fun g e1 e2 => ?_, fun g e => (HO1.out.span g e).2, fun g e => (HO2.out.span g e).2, fun g e => (h3.span g e).2⟩
    · have := t0 g e1; have := (HO2.out.span g e2).1; omega
    · have := t0 g e1; have := (h3.span g e2).1; omega
    · have := HOc.out g e1; have := (h3.span g e2).1; omega)
  have HCw := Lib.hid hcw
  clear h3 hcw
  go_wp2_with fail
  try simp only [Exit.inBlock, Exit.then]
  refine bodyPost_ret (res_game Try.results28 rfl ((K2.out.farW (show w.heap.size + 1 ≠ w.heap.size + 1 + 1 by omega) _ _).set_ _ _ _ _ _)) rfl ?_
  have HGf := (((((HG.out.far (g := w.heap.size + 1 + 1) (by omega) 4 (.slice pw' nw cw')).far (g := w.heap.size + 1) (by omega) 0 (.int .i64 s)).far (g := w.heap.size + 1) (by omega) 1 (.int .i64 nx)).far (g := w.heap.size + 1) (by omega) 2 (.slice p' n c')).far (g := w.heap.size + 1) (by omega) 3 (.slice ps' ns cs')).far (g := w.heap.size + 1) (by omega) 4 (.slice pw' nw cw')
  have hsz : w3.heap.size ≤ ((((((w3.setCell ⟨w.heap.size + 1 + 1, 4, none⟩ (.slice pw' nw cw')).setCell ⟨w.heap.size + 1, 0, none⟩ (.int .i64 s)).setCell ⟨w.heap.size + 1, 1, none⟩ (.int .i64 nx)).setCell ⟨w.heap.size + 1, 2, none⟩ (.slice p' n c')).setCell ⟨w.heap.size + 1, 3, none⟩ (.slice ps' ns cs')).setCell ⟨w.heap.size + 1, 4, none⟩ (.slice pw' nw cw')).heap.size := by simp [World.setCell]
  have HGg := (HGf.base (show w.heap.size ≤ w.heap.size + 3 by omega)).top hsz
  exact ⟨_, _, _, _, _, _, rfl, HGg, HGg.rd, ⟨HN.out, HS.out, HW.out, HC.out, HCs.out, HCw.out, Own.nil0 HGg.o1, OwnI.nil0 HGg.o2, OwnI.nil0 HGg.o3, HWf.out, hl, hls, hlw⟩, by repeat (first | with_reducible exact Below.refl _ _ | with_reducible exact HB.out | with_reducible apply Below.drew | with_reducible apply bdN | with_reducible refine Below.alloc ?_ (by first | exact Nat.le_refl _ | with_reducible exact HB.out.size | omega | (simp; done) | (simp; omega) | (have := HB.out.size; simp at *; omega)) _ | with_reducible refine Below.setCell ?_ (by first | exact Nat.le_refl _ | with_reducible exact HB.out.size | omega | (simp; done) | (simp; omega) | (have := HB.out.size; simp at *; omega)) _)⟩
end Go.Proofs.Ytjanphcfflahkaa.game
