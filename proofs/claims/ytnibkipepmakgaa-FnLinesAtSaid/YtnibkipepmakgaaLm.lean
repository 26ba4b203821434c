/- All lines of a hand: the program and the model alike. -/
import Derived.Test.YtnibkipepmakgaaTh
import Derived.Test.YtnibkipepmakgaaR3
namespace Go.Proofs.Ytnibkipepmakgaa.cards
open Go.RowKit
set_option linter.unusedVariables false

/-- The place of a card, or -1. -/
def place (l : List Cd) (c : Cd) : Int := if there l c = true then (less l c : Int) else -1
theorem there_none {l : List Cd} {c : Cd} (hs : sorted l) (h : ∀ (k : Nat) (y : Cd), l[k]? = some y → num y ≠ num c) : there l c = false := by
  unfold there
  exact decide_eq_false (fun ⟨x, hx, hn⟩ => h _ x hx hn)

set_option maxRecDepth 100000 in
set_option maxHeartbeats 2000000 in
theorem l2_place (l : List Cd) (c : Cd) (p : Option Addr) (n cp : Nat) (w : World) (hn : l.length = n) (hl : n ≤ 1000) (hr : Rd w p (flat l)) (hok : l.all Cd.ok = true) (hc : c.ok = true) (hs : sorted l) :
    Calls Try.prog 45 #[.slice p n cp, c.val] w fun e w' => e = .returned (.int .i64 (place l c)) ∧ Below w.heap.size w w' := by
  have HN := Lib.hid hn
  have HR := Lib.hid hr
  have HS := Lib.hid hs
  have HK := Lib.hid hok
  have HC := Lib.hid hc
  clear hn hr hs hok hc
  go_enter Try.func45, Try.ntmps45
  go_wp2_with fail
  go_loopw [5] (fun i wr => ∃ k : Nat, k ≤ n ∧ i = .int .i64 k ∧ Hid (∀ j y, j < k → l[j]? = some y → num y ≠ num c) ∧ Hid (Below w.heap.size w wr) ∧ Hid (Box wr w.heap.size c)) (fun i _ => n - (intOf i).toNat)
  case atStart => exact ⟨0, Nat.zero_le _, rfl, fun j y h => by omega, Lib.hid (by repeat (first | with_reducible exact Below.refl _ _ | with_reducible exact HB.out | with_reducible apply Below.drew | with_reducible apply bdN | with_reducible refine Below.alloc ?_ (by first | exact Nat.le_refl _ | with_reducible exact HB.out.size | omega | (simp; done) | (simp; omega) | (have := HB.out.size; simp at *; omega)) _ | with_reducible refine Below.setCell ?_ (by first | exact Nat.le_refl _ | with_reducible exact HB.out.size | omega | (simp; done) | (simp; omega) | (have := HB.out.size; simp at *; omega)) _)), Lib.hid (by repeat (first | with_reducible exact HB.out | with_reducible apply Box.drewN | with_reducible apply Box.drew | (with_reducible refine Box.newAt ?_ ?_ <;> first | (simp; done) | rfl) | with_reducible apply Box.alloc))⟩
  case round =>
    obtain ⟨k, hk, rfl, HU, HB, K0⟩ := hrel
    obtain ⟨k0a, k0b, k0c, k0d⟩ := K0.out.cell
    by_cases hlt : k < n
    · obtain ⟨b, o, x, rfl, hb, hx, c0, c1, c2, c3⟩ := (HR.out.below HB.out).card (k := k) (by rw [HN.out]; exact hlt)
      have HX := Lib.hid hx
      have he := eq_run x c (ok_at HK.out hx) HC.out
      have HE := Lib.hid (same_num (ok_at HK.out hx) HC.out)
      clear hx
      have m0 : (0 : Int) ≤ (k : Int) := by omega
      have m1 : (k : Int) < (n : Int) := by omega
      cases hs : same x c
      · have HU1 := Lib.hid (show ∀ j y, j < k + 1 → l[j]? = some y → num y ≠ num c from fun j y hj hy => by
          rcases Nat.lt_or_ge j k with h | h
          · exact HU.out j y h hy
          · obtain rfl : j = k := by omega
            have h1 := HX.out; rw [hy] at h1; injection h1 with h1; subst h1
            exact of_decide_eq_false (by rw [← HE.out]; exact hs))
        go_wp2_with fail
        have qk0a := fun d os => cell_regrown k0a d os
        have qk0b := fun d os => cell_regrown k0b d os
        have qk0c := fun d os => cell_regrown k0c d os
        have qk0d := fun d os => cell_regrown k0d d os
        have qc0 := fun d os => cell_regrown c0 d os
        have qc1 := fun d os => cell_regrown c1 d os
        have qc2 := fun d os => cell_regrown c2 d os
        have qc3 := fun d os => cell_regrown c3 d os
        refine wp_region_quiet_below (by kernel_rfl) (by kernel_rfl) ?_
        repeat (first | go_big_quiet_step ((fail)) | quiet_step ((fail)))
        refine wpQuiet_nil ?_
        intro w3 hw2
        have b : Below wr.heap.size wr w3 := by obtain ⟨r, hr⟩ := hw2; rw [hr]; exact below_regrown _ _ _
        clear hw2 qc0 qc1 qc2 qc3 qk0a qk0b qk0c qk0d
        have Sw3 := Lib.hid b.size
        have HB := Lib.hid (chain0 (w := w) (by repeat (first | with_reducible exact Below.refl _ _ | with_reducible exact HB.out | with_reducible apply Below.drew | with_reducible apply bdN | with_reducible refine Below.alloc ?_ (by first | exact Nat.le_refl _ | with_reducible exact HB.out.size | omega | (simp; done) | (simp; omega) | (have := HB.out.size; simp at *; omega)) _ | with_reducible refine Below.setCell ?_ (by first | exact Nat.le_refl _ | with_reducible exact HB.out.size | omega | (simp; done) | (simp; omega) | (have := HB.out.size; simp at *; omega)) _)) b)
        have K0 : Hid (Box _ (w.heap.size) (c)) := Lib.hid (Box.below (by repeat (first | with_reducible exact K0.out | with_reducible apply Box.drewN | with_reducible apply Box.drew | (with_reducible refine Box.newAt ?_ ?_ <;> first | (simp; done) | rfl) | with_reducible apply Box.alloc)) b)
        try clear k0a k0b k0c k0d k0z
        have k0z := K0.out.lt
        obtain ⟨k0a, k0b, k0c, k0d⟩ := K0.out.cell
        clear b
        clear c0 c1 c2 c3 he
        go_wp2_with fail
        go_roundw
        case rel => exact ⟨k + 1, by omega, by go_num, HU1, HB, K0⟩
        case measure => simp [intOf]; omega
      · have HP := Lib.hid (show (k : Int) = place l c by
          have h1 : num x = num c := of_decide_eq_true (by rw [← HE.out]; exact hs)
          obtain ⟨h2, h3⟩ := (place_is HS.out HX.out).1 h1
          unfold place; rw [if_pos h2, h3])
        go_wp2_with fail
        have qk0a := fun d os => cell_regrown k0a d os
        have qk0b := fun d os => cell_regrown k0b d os
        have qk0c := fun d os => cell_regrown k0c d os
        have qk0d := fun d os => cell_regrown k0d d os
        have qc0 := fun d os => cell_regrown c0 d os
        have qc1 := fun d os => cell_regrown c1 d os
        have qc2 := fun d os => cell_regrown c2 d os
        have qc3 := fun d os => cell_regrown c3 d os
        refine wp_region_quiet_below (by kernel_rfl) (by kernel_rfl) ?_
        repeat (first | go_big_quiet_step ((fail)) | quiet_step ((fail)))
        refine wpQuiet_nil ?_
        intro w3 hw2
        have b : Below wr.heap.size wr w3 := by obtain ⟨r, hr⟩ := hw2; rw [hr]; exact below_regrown _ _ _
        clear hw2 qc0 qc1 qc2 qc3 qk0a qk0b qk0c qk0d
        have Sw3 := Lib.hid b.size
        have HB := Lib.hid (chain0 (w := w) (by repeat (first | with_reducible exact Below.refl _ _ | with_reducible exact HB.out | with_reducible apply Below.drew | with_reducible apply bdN | with_reducible refine Below.alloc ?_ (by first | exact Nat.le_refl _ | with_reducible exact HB.out.size | omega | (simp; done) | (simp; omega) | (have := HB.out.size; simp at *; omega)) _ | with_reducible refine Below.setCell ?_ (by first | exact Nat.le_refl _ | with_reducible exact HB.out.size | omega | (simp; done) | (simp; omega) | (have := HB.out.size; simp at *; omega)) _)) b)
        have K0 : Hid (Box _ (w.heap.size) (c)) := Lib.hid (Box.below (by repeat (first | with_reducible exact K0.out | with_reducible apply Box.drewN | with_reducible apply Box.drew | (with_reducible refine Box.newAt ?_ ?_ <;> first | (simp; done) | rfl) | with_reducible apply Box.alloc)) b)
        try clear k0a k0b k0c k0d k0z
        have k0z := K0.out.lt
        obtain ⟨k0a, k0b, k0c, k0d⟩ := K0.out.cell
        clear b
        clear c0 c1 c2 c3 he
        go_wp2_with fail
        go_ret
        exact ⟨ret_int HP.out, HB.out⟩
    · obtain rfl : k = n := by omega
      have HP := Lib.hid (show -1 = place l c by
        unfold place
        rw [there_none HS.out (fun j y hy => HU.out j y (by rw [← HN.out]; exact (List.getElem?_eq_some_iff.1 hy).1) hy)]
        rfl)
      go_wp2_with fail
      go_ret
      exact ⟨ret_int HP.out, HB.out⟩

def item (l : List Cd) (i j : Nat) : List A3 := match l[i]?, l[j]? with
  | some x, some y => if there l (third x y) = true ∧ j < less l (third x y) then [⟨i, j, less l (third x y)⟩] else []
  | _, _ => []
/-- The lines that begin with i, their second cards below j; and all lines that begin below i. -/
def rowL (l : List Cd) (i : Nat) : Nat → List A3
  | 0 => []
  | j + 1 => rowL l i j ++ (if i < j then item l i j else [])
def allL (l : List Cd) : Nat → List A3
  | 0 => []
  | i + 1 => allL l i ++ rowL l i l.length
theorem item_len (l : List Cd) (i j : Nat) : (item l i j).length ≤ 1 := by unfold item; split <;> (try split) <;> simp
theorem rowL_len (l : List Cd) (i : Nat) : ∀ j : Nat, (rowL l i j).length ≤ j
  | 0 => by simp [rowL]
  | j + 1 => by
    have := rowL_len l i j
    have := item_len l i j
    simp only [rowL, List.length_append]
    split <;> simp <;> omega
theorem allL_len (l : List Cd) : ∀ i : Nat, (allL l i).length ≤ i * l.length
  | 0 => by simp [allL]
  | i + 1 => by
    have := allL_len l i
    have := rowL_len l i l.length
    simp only [allL, List.length_append, Nat.succ_mul]
    omega
theorem rowL_low {l : List Cd} {i : Nat} : ∀ {j : Nat}, j ≤ i + 1 → rowL l i j = []
  | 0, _ => rfl
  | j + 1, h => by
    simp only [rowL]
    rw [rowL_low (by omega), if_neg (by omega)]; rfl
theorem rowL_step {l : List Cd} {i j : Nat} {x y : Cd} (hij : i < j) (hx : l[i]? = some x) (hy : l[j]? = some y) : rowL l i (j + 1) = rowL l i j ++ (if there l (third x y) = true ∧ j < less l (third x y) then [⟨i, j, less l (third x y)⟩] else []) := by
  simp only [rowL]
  rw [if_pos hij]
  unfold item
  rw [hx, hy]

set_option maxRecDepth 100000 in
set_option maxHeartbeats 4000000 in
theorem l2_lines (l : List Cd) (p : Option Addr) (n cp : Nat) (w : World) (hn : l.length = n) (hl : n ≤ 27) (hr : Rd w p (flat l)) (hok : l.all Cd.ok = true) (hs : sorted l) :
    Calls Try.prog 27 #[.slice p n cp] w fun e w' => ∃ u, e = .returned u ∧ OwnA3 w' w.heap.size u (allL l n) ∧ Below w.heap.size w w' := by
  have HN := Lib.hid hn
  have HR0 := Lib.hid hr
  have HS := Lib.hid hs
  have HK := Lib.hid hok
  clear hn hr hs hok
  go_enter Try.func27, Try.ntmps27
  go_wp2_with fail
  go_loopw [3, 4, 5, 6] (fun o i _ _ wr => ∃ k : Nat, k ≤ n ∧ i = .int .i64 k ∧ Hid (OwnA3 wr w.heap.size o (allL l k)) ∧ Hid (Below w.heap.size w wr)) (fun _ i _ _ _ => n - (intOf i).toNat)
  case atStart => exact ⟨0, Nat.zero_le _, rfl, OwnA3.empty w w.heap.size (Nat.le_refl _), Lib.hid (by repeat (first | with_reducible exact Below.refl _ _ | with_reducible exact HB.out | with_reducible apply Below.drew | with_reducible apply bdN | with_reducible refine Below.alloc ?_ (by first | exact Nat.le_refl _ | with_reducible exact HB.out.size | omega | (simp; done) | (simp; omega) | (have := HB.out.size; simp at *; omega)) _ | with_reducible refine Below.setCell ?_ (by first | exact Nat.le_refl _ | with_reducible exact HB.out.size | omega | (simp; done) | (simp; omega) | (have := HB.out.size; simp at *; omega)) _))⟩
  case round =>
    obtain ⟨k, hk, rfl, HO, HB⟩ := hrel
    by_cases hlt : k < n
    · obtain ⟨wo, HWo⟩ : ∃ wo : World, Hid (wo = wr) := ⟨_, rfl⟩
      go_wp2_with fail
      go_loopw [3, 5, 6] (fun o i _ wr => ∃ j : Nat, j ≤ n ∧ k < j ∧ i = .int .i64 j ∧ Hid (OwnA3 wr w.heap.size o (allL l k ++ rowL l k j)) ∧ Hid (Below w.heap.size w wr)) (fun _ i _ _ => n - (intOf i).toNat)
      case atStart => exact ⟨k + 1, by omega, by omega, by go_num, by rw [rowL_low (Nat.le_refl _), List.append_nil]; exact HO, HB⟩
      case round =>
        clear HB HO
        obtain ⟨j, hj, hkj, rfl, HO, HB⟩ := hrel
        by_cases hjt : j < n
        · have HR := Lib.hid (HR0.out.below HB.out)
          obtain ⟨b, o, x, rfl, hb, hx, c0, c1, c2, c3⟩ := HR.out.card (k := k) (by rw [HN.out]; omega)
          obtain ⟨b2, o2, y, hbo, hb2, hy, d0, d1, d2, d3⟩ := HR.out.card (k := j) (by rw [HN.out]; omega)
          injection hbo with hbo
          injection hbo with e1 e2
          subst e1; subst e2
          have HX := Lib.hid (ok_at HK.out hx)
          have HY := Lib.hid (ok_at HK.out hy)
          have hst := rowL_step hkj hx hy
          have hln : (allL l k ++ rowL l k j).length ≤ 1000000 := by
            have h1 := allL_len l k
            have h2 := rowL_len l k j
            have h3 : k * l.length ≤ 27 * 27 := Nat.mul_le_mul (by omega) (by have := HN.out; omega)
            rw [List.length_append]; omega
          have HLn := Lib.hid hln
          have hle := less_le l (third x y)
          rw [HN.out] at hle
          clear hx hy hln
          have HP := fun w' (hw : Below wr.heap.size wr w') => l2_place l (third x y) (some ⟨b, o, none⟩) n cp w' HN.out (by omega) (HR.out.below hw) HK.out (third_ok _ _) HS.out
          unfold place at HP
          obtain ⟨q, hq⟩ : ∃ q, less l (third x y) = q := ⟨_, rfl⟩
          rw [hq] at HP hst hle
          clear hq
          have m0 : (0 : Int) ≤ (k : Int) := by omega
          have m1 : (k : Int) < (n : Int) := by omega
          have m2 : (0 : Int) ≤ (j : Int) := by omega
          have m3 : (j : Int) < (n : Int) := by omega
          cases ht : there l (third x y)
          · rw [if_neg (by simp [ht])] at HP hst
            have HPh := Lib.hid HP
            have HSt := Lib.hid hst
            clear HP hst ht
            go_wp2_with fail
            have qc0 := fun d os => cell_regrown c0 d os
            have qc1 := fun d os => cell_regrown c1 d os
            have qc2 := fun d os => cell_regrown c2 d os
            have qc3 := fun d os => cell_regrown c3 d os
            have qd0 := fun d os => cell_regrown d0 d os
            have qd1 := fun d os => cell_regrown d1 d os
            have qd2 := fun d os => cell_regrown d2 d os
            have qd3 := fun d os => cell_regrown d3 d os
            refine wp_region_quiet_below (by kernel_rfl) (by kernel_rfl) ?_
            repeat (first | go_big_quiet_step ((first | (go_at_call 30; with_reducible exact Calls.regrown_of (l2_third _ _ _ HX.out HY.out)) | (go_at_call 45; with_reducible exact Calls.regrown_of (HPh.out _ (below_regrown _ _ _))))) | quiet_step ((first | (go_at_call 30; with_reducible exact Calls.regrown_of (l2_third _ _ _ HX.out HY.out)) | (go_at_call 45; with_reducible exact Calls.regrown_of (HPh.out _ (below_regrown _ _ _))))))
            refine wpQuiet_nil ?_
            intro w3 hw2
            have b : Below wr.heap.size wr w3 := by obtain ⟨r, hr⟩ := hw2; rw [hr]; exact below_regrown _ _ _
            clear hw2 qc0 qc1 qc2 qc3 qd0 qd1 qd2 qd3
            have Sw3 := Lib.hid b.size
            have HB := Lib.hid (chain0 (w := w) (by repeat (first | with_reducible exact Below.refl _ _ | with_reducible exact HB.out | with_reducible apply Below.drew | with_reducible apply bdN | with_reducible refine Below.alloc ?_ (by first | exact Nat.le_refl _ | with_reducible exact HB.out.size | omega | (simp; done) | (simp; omega) | (have := HB.out.size; simp at *; omega)) _ | with_reducible refine Below.setCell ?_ (by first | exact Nat.le_refl _ | with_reducible exact HB.out.size | omega | (simp; done) | (simp; omega) | (have := HB.out.size; simp at *; omega)) _)) b)
            have HO := Lib.hid (OwnA3.below (by repeat (first | with_reducible exact HO.out | with_reducible apply OwnA3.drewN | with_reducible apply OwnA3.drew | with_reducible apply OwnA3.alloc)) b)
            clear b
            clear c0 c1 c2 c3 d0 d1 d2 d3
            go_wp2_with fail
            go_roundw
            case rel => exact ⟨j + 1, by omega, by omega, by go_num, by rw [HSt.out, List.append_nil]; exact HO, HB⟩
            case measure => simp [intOf]; omega
          · rw [if_pos ht] at HP
            have HPh := Lib.hid HP
            clear HP
            by_cases hjq : j < q
            · rw [if_pos ⟨ht, hjq⟩] at hst
              have HSt := Lib.hid hst
              clear hst ht
              go_wp2_with fail
              have qc0 := fun d os => cell_regrown c0 d os
              have qc1 := fun d os => cell_regrown c1 d os
              have qc2 := fun d os => cell_regrown c2 d os
              have qc3 := fun d os => cell_regrown c3 d os
              have qd0 := fun d os => cell_regrown d0 d os
              have qd1 := fun d os => cell_regrown d1 d os
              have qd2 := fun d os => cell_regrown d2 d os
              have qd3 := fun d os => cell_regrown d3 d os
              refine wp_region_quiet_below (by kernel_rfl) (by kernel_rfl) ?_
              repeat (first | go_big_quiet_step ((first | (go_at_call 30; with_reducible exact Calls.regrown_of (l2_third _ _ _ HX.out HY.out)) | (go_at_call 45; with_reducible exact Calls.regrown_of (HPh.out _ (below_regrown _ _ _))))) | quiet_step ((first | (go_at_call 30; with_reducible exact Calls.regrown_of (l2_third _ _ _ HX.out HY.out)) | (go_at_call 45; with_reducible exact Calls.regrown_of (HPh.out _ (below_regrown _ _ _))))))
              refine wpQuiet_nil ?_
              intro w3 hw2
              have b : Below wr.heap.size wr w3 := by obtain ⟨r, hr⟩ := hw2; rw [hr]; exact below_regrown _ _ _
              clear hw2 qc0 qc1 qc2 qc3 qd0 qd1 qd2 qd3
              have Sw3 := Lib.hid b.size
              have HB := Lib.hid (chain0 (w := w) (by repeat (first | with_reducible exact Below.refl _ _ | with_reducible exact HB.out | with_reducible apply Below.drew | with_reducible apply bdN | with_reducible refine Below.alloc ?_ (by first | exact Nat.le_refl _ | with_reducible exact HB.out.size | omega | (simp; done) | (simp; omega) | (have := HB.out.size; simp at *; omega)) _ | with_reducible refine Below.setCell ?_ (by first | exact Nat.le_refl _ | with_reducible exact HB.out.size | omega | (simp; done) | (simp; omega) | (have := HB.out.size; simp at *; omega)) _)) b)
              have HO := Lib.hid (OwnA3.below (by repeat (first | with_reducible exact HO.out | with_reducible apply OwnA3.drewN | with_reducible apply OwnA3.drew | with_reducible apply OwnA3.alloc)) b)
              clear b
              clear c0 c1 c2 c3 d0 d1 d2 d3
              go_wp2_with (at_builtin; refine append_A3 rfl (.tmp 36) (.tmp 41) rfl w.heap.size _ (allL l k ++ rowL l k j) ⟨(k : Int), (j : Int), (q : Int)⟩ _ _ rfl rfl rfl HO.out (by have := HLn.out; omega) HB.out.size ?_; intro v1 w4 hO1 hB1)
              rw [List.append_assoc, ← HSt.out] at hO1
              go_roundw
              case rel => exact ⟨j + 1, by omega, by omega, by go_num, hO1, HB.out.trans hB1⟩
              case measure => simp [intOf]; omega
            · rw [if_neg (fun h => hjq h.2)] at hst
              have HSt := Lib.hid hst
              clear hst ht
              go_wp2_with fail
              have qc0 := fun d os => cell_regrown c0 d os
              have qc1 := fun d os => cell_regrown c1 d os
              have qc2 := fun d os => cell_regrown c2 d os
              have qc3 := fun d os => cell_regrown c3 d os
              have qd0 := fun d os => cell_regrown d0 d os
              have qd1 := fun d os => cell_regrown d1 d os
              have qd2 := fun d os => cell_regrown d2 d os
              have qd3 := fun d os => cell_regrown d3 d os
              refine wp_region_quiet_below (by kernel_rfl) (by kernel_rfl) ?_
              repeat (first | go_big_quiet_step ((first | (go_at_call 30; with_reducible exact Calls.regrown_of (l2_third _ _ _ HX.out HY.out)) | (go_at_call 45; with_reducible exact Calls.regrown_of (HPh.out _ (below_regrown _ _ _))))) | quiet_step ((first | (go_at_call 30; with_reducible exact Calls.regrown_of (l2_third _ _ _ HX.out HY.out)) | (go_at_call 45; with_reducible exact Calls.regrown_of (HPh.out _ (below_regrown _ _ _))))))
              refine wpQuiet_nil ?_
              intro w3 hw2
              have b : Below wr.heap.size wr w3 := by obtain ⟨r, hr⟩ := hw2; rw [hr]; exact below_regrown _ _ _
              clear hw2 qc0 qc1 qc2 qc3 qd0 qd1 qd2 qd3
              have Sw3 := Lib.hid b.size
              have HB := Lib.hid (chain0 (w := w) (by repeat (first | with_reducible exact Below.refl _ _ | with_reducible exact HB.out | with_reducible apply Below.drew | with_reducible apply bdN | with_reducible refine Below.alloc ?_ (by first | exact Nat.le_refl _ | with_reducible exact HB.out.size | omega | (simp; done) | (simp; omega) | (have := HB.out.size; simp at *; omega)) _ | with_reducible refine Below.setCell ?_ (by first | exact Nat.le_refl _ | with_reducible exact HB.out.size | omega | (simp; done) | (simp; omega) | (have := HB.out.size; simp at *; omega)) _)) b)
              have HO := Lib.hid (OwnA3.below (by repeat (first | with_reducible exact HO.out | with_reducible apply OwnA3.drewN | with_reducible apply OwnA3.drew | with_reducible apply OwnA3.alloc)) b)
              clear b
              clear c0 c1 c2 c3 d0 d1 d2 d3
              go_wp2_with fail
              go_roundw
              case rel => exact ⟨j + 1, by omega, by omega, by go_num, by rw [HSt.out, List.append_nil]; exact HO, HB⟩
              case measure => simp [intOf]; omega
        · obtain rfl : j = n := by omega
          go_wp2_with fail
          go_roundw
          case rel => exact ⟨k + 1, by omega, by go_num, by rw [show allL l (k + 1) = allL l k ++ rowL l k l.length from rfl, HN.out]; exact HO, HB⟩
          case measure => simp [intOf]; omega
    · obtain rfl : k = n := by omega
      go_wp2_with fail
      go_ret
      exact ⟨_, rfl, HO.out, HB.out⟩
end Go.Proofs.Ytnibkipepmakgaa.cards
