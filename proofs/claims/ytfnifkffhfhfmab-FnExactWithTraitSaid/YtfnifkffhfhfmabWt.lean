/- The places of the cards that have a value as a trait: the program and the model alike. -/
import Derived.Test.YtfnifkffhfhfmabIh
import Derived.Test.YtfnifkffhfhfmabIx
namespace Go.Proofs.Ytfnifkffhfhfmab.cards
open Go.RowKit
set_option linter.unusedVariables false

/-- The places, up to k, of the elements that answer a question. -/
def pl {α : Type} (q : α → Bool) (l : List α) (k : Nat) : List Int := ((List.range k).filter fun i => (l[i]?.map q).getD false).map fun i : Nat => (i : Int)
theorem pl_zero {α : Type} (q : α → Bool) (l : List α) : pl q l 0 = [] := rfl
theorem pl_yes {α : Type} {q : α → Bool} {l : List α} {k : Nat} {x : α} (hx : l[k]? = some x) (h : q x = true) : pl q l (k + 1) = pl q l k ++ [(k : Int)] := by
  unfold pl
  rw [List.range_succ, List.filter_append, List.map_append]
  simp [hx, h]
theorem pl_no {α : Type} {q : α → Bool} {l : List α} {k : Nat} {x : α} (hx : l[k]? = some x) (h : q x = false) : pl q l (k + 1) = pl q l k := by
  unfold pl
  rw [List.range_succ, List.filter_append, List.map_append]
  simp [hx, h]
theorem pl_len {α : Type} (q : α → Bool) (l : List α) (k : Nat) : (pl q l k).length ≤ k := by
  unfold pl
  rw [List.length_map]
  exact Nat.le_trans (List.length_filter_le _ _) (by simp)

def tr (x : Cd) : Nat → Int
  | 0 => x.a
  | 1 => x.b
  | 2 => x.c
  | _ => x.d
noncomputable def wtR (l : List Cd) (t v : Int) : List Int × Bool := if handB l = true ∧ (0 ≤ t ∧ t ≤ 3) ∧ (0 ≤ v ∧ v ≤ 2) then (pl (fun x => tr x t.toNat == v) l l.length, true) else ([], false)

set_option maxRecDepth 100000 in
set_option maxHeartbeats 2000000 in
theorem spec_wt (l : List Cd) (p : Option Addr) (n c : Nat) (t v : Int) (w : World) (hn : l.length = n) (hl : n ≤ 1000000000) (hr : Rd w p (flat l)) :
    Calls Try.prog 36 #[.slice p n c, .int .i64 t, .int .i64 v] w fun e w' => ∃ u, e = .returned (.tuple #[u, .bool (wtR l t v).2]) ∧ OwnI w' w.heap.size u (wtR l t v).1 ∧ Below w.heap.size w w' := by
  have HN := Lib.hid hn
  have HR := Lib.hid hr
  have HR0 := Lib.hid hr
  clear hn hr
  go_enter Try.func36, Try.ntmps36
  go_wp2_with fail
  have HO := Lib.hid (OwnI.empty w w.heap.size (Nat.le_refl _))
  go_wp2_with fail
  refine ((l2_hand l p n c _ HN.out hl (HR.out.alloc _))).mono ?_
  rintro e w1 ⟨rfl, b⟩
  have Sw1 := Lib.hid b.size
  have HB := Lib.hid (chain0 (w := w) (by repeat (first | with_reducible exact Below.refl _ _ | with_reducible exact HB.out | with_reducible apply Below.drew | with_reducible apply bdN | with_reducible refine Below.alloc ?_ (by first | exact Nat.le_refl _ | (simp; done) | (simp; omega) | (have := HB.out.size; simp at *; omega)) _ | with_reducible refine Below.setCell ?_ (by first | exact Nat.le_refl _ | (simp; done) | (simp; omega) | (have := HB.out.size; simp at *; omega)) _)) b)
  have HR := Lib.hid (Rd.below (by repeat (first | with_reducible exact HR.out | with_reducible apply Rd.drewN | with_reducible apply Rd.drew | with_reducible apply Rd.alloc)) b)
  have HO := Lib.hid (OwnI.below (by repeat (first | with_reducible exact HO.out | with_reducible apply OwnI.drewN | with_reducible apply OwnI.drew | with_reducible apply OwnI.alloc)) b)
  clear b
  cases hh : handB l
  · have HT := Lib.hid (show wtR l t v = ([], false) by unfold wtR; rw [if_neg (by simp [hh])])
    go_wp2_with fail
    go_ret2
    exact ⟨_, ret_two (by rw [HT.out]), by rw [HT.out]; exact HO.out, by repeat (first | with_reducible exact Below.refl _ _ | with_reducible exact HB.out | with_reducible apply Below.drew | with_reducible apply bdN | with_reducible refine Below.alloc ?_ (by first | exact Nat.le_refl _ | (simp; done) | (simp; omega) | (have := HB.out.size; simp at *; omega)) _ | with_reducible refine Below.setCell ?_ (by first | exact Nat.le_refl _ | (simp; done) | (simp; omega) | (have := HB.out.size; simp at *; omega)) _)⟩
  · by_cases ht : 0 ≤ t ∧ t ≤ 3
    · go_wp2_with fail
      refine (in_yes t 0 3 _ ht.1 ht.2).mono ?_
      rintro e w' ⟨rfl, rfl⟩
      by_cases hv : 0 ≤ v ∧ v ≤ 2
      · have HT := Lib.hid (show wtR l t v = (pl (fun x => tr x t.toNat == v) l n, true) by unfold wtR; rw [if_pos ⟨hh, ht, hv⟩, HN.out])
        obtain ⟨t0, t1⟩ := ht
        obtain ⟨v0, v1⟩ := hv
        go_wp2_with fail
        refine (in_yes v 0 2 _ v0 v1).mono ?_
        rintro e w' ⟨rfl, rfl⟩
        go_wp2_with fail
        clear hh
        go_loopw [8, 9] (fun o i wr => ∃ k : Nat, k ≤ n ∧ i = .int .i64 k ∧ Hid (OwnI wr w.heap.size o (pl (fun x => tr x t.toNat == v) l k)) ∧ Hid (Below w.heap.size w wr)) (fun _ i _ => n - (intOf i).toNat)
        case atStart => exact ⟨0, Nat.zero_le _, rfl, HO, HB⟩
        case round =>
          clear HO HB HR
          obtain ⟨k, hk, rfl, HO, HB⟩ := hrel
          by_cases hlt : k < n
          · obtain ⟨b, ob, x, rfl, hb, hx, c0, c1, c2, c3⟩ := (HR0.out.below HB.out).card (k := k) (by rw [HN.out]; exact hlt)
            have HX := Lib.hid hx
            have HL := Lib.hid (pl_len (fun x => tr x t.toNat == v) l k)
            clear hx
            have b0 : (0 : Int) ≤ (k : Int) := by omega
            have b1 : (k : Int) < (n : Int) := by omega
            rcases (show t = 0 ∨ t = 1 ∨ t = 2 ∨ t = 3 by omega) with rfl | rfl | rfl | rfl
            · cases hq : (x.a == v)
              · have HS := Lib.hid (pl_no (q := fun x => tr x (0 : Int).toNat == v) HX.out hq)
                go_wp2_with fail
                go_roundw
                case rel => exact ⟨k + 1, by omega, by go_num, by rw [HS.out]; exact HO, HB⟩
                case measure => simp [intOf]; omega
              · have HS := Lib.hid (pl_yes (q := fun x => tr x (0 : Int).toNat == v) HX.out hq)
                go_wp2_with (at_builtin; refine append_int rfl (.tmp 39) (.tmp 41) rfl w.heap.size _ (pl (fun x => tr x (0 : Int).toNat == v) l k) (k : Int) _ _ rfl rfl rfl HO.out (by have := HL.out; omega) HB.out.size ?_; intro v1 w1 hO1 hB1)
                rw [← HS.out] at hO1
                exact ⟨⟨k + 1, by omega, by go_num, hO1, HB.out.trans hB1⟩, by simp [intOf]; omega⟩
            · cases hq : (x.b == v)
              · have HS := Lib.hid (pl_no (q := fun x => tr x (1 : Int).toNat == v) HX.out hq)
                go_wp2_with fail
                go_roundw
                case rel => exact ⟨k + 1, by omega, by go_num, by rw [HS.out]; exact HO, HB⟩
                case measure => simp [intOf]; omega
              · have HS := Lib.hid (pl_yes (q := fun x => tr x (1 : Int).toNat == v) HX.out hq)
                go_wp2_with (at_builtin; refine append_int rfl (.tmp 39) (.tmp 41) rfl w.heap.size _ (pl (fun x => tr x (1 : Int).toNat == v) l k) (k : Int) _ _ rfl rfl rfl HO.out (by have := HL.out; omega) HB.out.size ?_; intro v1 w1 hO1 hB1)
                rw [← HS.out] at hO1
                exact ⟨⟨k + 1, by omega, by go_num, hO1, HB.out.trans hB1⟩, by simp [intOf]; omega⟩
            · cases hq : (x.c == v)
              · have HS := Lib.hid (pl_no (q := fun x => tr x (2 : Int).toNat == v) HX.out hq)
                go_wp2_with fail
                go_roundw
                case rel => exact ⟨k + 1, by omega, by go_num, by rw [HS.out]; exact HO, HB⟩
                case measure => simp [intOf]; omega
              · have HS := Lib.hid (pl_yes (q := fun x => tr x (2 : Int).toNat == v) HX.out hq)
                go_wp2_with (at_builtin; refine append_int rfl (.tmp 39) (.tmp 41) rfl w.heap.size _ (pl (fun x => tr x (2 : Int).toNat == v) l k) (k : Int) _ _ rfl rfl rfl HO.out (by have := HL.out; omega) HB.out.size ?_; intro v1 w1 hO1 hB1)
                rw [← HS.out] at hO1
                exact ⟨⟨k + 1, by omega, by go_num, hO1, HB.out.trans hB1⟩, by simp [intOf]; omega⟩
            · cases hq : (x.d == v)
              · have HS := Lib.hid (pl_no (q := fun x => tr x (3 : Int).toNat == v) HX.out hq)
                go_wp2_with fail
                go_roundw
                case rel => exact ⟨k + 1, by omega, by go_num, by rw [HS.out]; exact HO, HB⟩
                case measure => simp [intOf]; omega
              · have HS := Lib.hid (pl_yes (q := fun x => tr x (3 : Int).toNat == v) HX.out hq)
                go_wp2_with (at_builtin; refine append_int rfl (.tmp 39) (.tmp 41) rfl w.heap.size _ (pl (fun x => tr x (3 : Int).toNat == v) l k) (k : Int) _ _ rfl rfl rfl HO.out (by have := HL.out; omega) HB.out.size ?_; intro v1 w1 hO1 hB1)
                rw [← HS.out] at hO1
                exact ⟨⟨k + 1, by omega, by go_num, hO1, HB.out.trans hB1⟩, by simp [intOf]; omega⟩
          · obtain rfl : k = n := by omega
            go_wp2_with fail
            go_ret2
            exact ⟨_, ret_two (by rw [HT.out]), by rw [HT.out]; exact HO.out, HB.out⟩
      · have HT := Lib.hid (show wtR l t v = ([], false) by unfold wtR; rw [if_neg (fun h => hv h.2.2)])
        have hv' : v < 0 ∨ 2 < v := by omega
        clear hv
        go_wp2_with fail
        refine (in_no v 0 2 _ hv').mono ?_
        rintro e w' ⟨rfl, rfl⟩
        go_wp2_with fail
        go_ret2
        exact ⟨_, ret_two (by rw [HT.out]), by rw [HT.out]; exact HO.out, by repeat (first | with_reducible exact Below.refl _ _ | with_reducible exact HB.out | with_reducible apply Below.drew | with_reducible apply bdN | with_reducible refine Below.alloc ?_ (by first | exact Nat.le_refl _ | (simp; done) | (simp; omega) | (have := HB.out.size; simp at *; omega)) _ | with_reducible refine Below.setCell ?_ (by first | exact Nat.le_refl _ | (simp; done) | (simp; omega) | (have := HB.out.size; simp at *; omega)) _)⟩
    · have HT := Lib.hid (show wtR l t v = ([], false) by unfold wtR; rw [if_neg (fun h => ht h.2.1)])
      have ht' : t < 0 ∨ 3 < t := by omega
      clear ht
      go_wp2_with fail
      refine (in_no t 0 3 _ ht').mono ?_
      rintro e w' ⟨rfl, rfl⟩
      go_wp2_with fail
      go_ret2
      exact ⟨_, ret_two (by rw [HT.out]), by rw [HT.out]; exact HO.out, by repeat (first | with_reducible exact Below.refl _ _ | with_reducible exact HB.out | with_reducible apply Below.drew | with_reducible apply bdN | with_reducible refine Below.alloc ?_ (by first | exact Nat.le_refl _ | (simp; done) | (simp; omega) | (have := HB.out.size; simp at *; omega)) _ | with_reducible refine Below.setCell ?_ (by first | exact Nat.le_refl _ | (simp; done) | (simp; omega) | (have := HB.out.size; simp at *; omega)) _)⟩
set_option maxRecDepth 100000 in
set_option maxHeartbeats 2000000 in
theorem impl_wt (l : List Cd) (p : Option Addr) (n c : Nat) (t v : Int) (w : World) (hn : l.length = n) (hl : n ≤ 1000000000) (hr : Rd w p (flat l)) :
    Calls Try.prog 37 #[.slice p n c, .int .i64 t, .int .i64 v] w fun e w' => ∃ u, e = .returned (.tuple #[u, .bool (wtR l t v).2]) ∧ OwnI w' w.heap.size u (wtR l t v).1 ∧ Below w.heap.size w w' := by
  have HN := Lib.hid hn
  have HR := Lib.hid hr
  have HR0 := Lib.hid hr
  clear hn hr
  go_enter Try.func37, Try.ntmps37
  go_wp2_with fail
  refine ((is_hand l p n c _ HN.out hl (by repeat (first | with_reducible exact HR.out | with_reducible apply Rd.drewN | with_reducible apply Rd.drew | with_reducible apply Rd.alloc)))).mono ?_
  rintro e w1 ⟨rfl, b⟩
  have Sw1 := Lib.hid b.size
  have HB := Lib.hid (chain0 (w := w) (by repeat (first | with_reducible exact Below.refl _ _ | with_reducible exact HB.out | with_reducible apply Below.drew | with_reducible apply bdN | with_reducible refine Below.alloc ?_ (by first | exact Nat.le_refl _ | (simp; done) | (simp; omega) | (have := HB.out.size; simp at *; omega)) _ | with_reducible refine Below.setCell ?_ (by first | exact Nat.le_refl _ | (simp; done) | (simp; omega) | (have := HB.out.size; simp at *; omega)) _)) b)
  have HR := Lib.hid (Rd.below (by repeat (first | with_reducible exact HR.out | with_reducible apply Rd.drewN | with_reducible apply Rd.drew | with_reducible apply Rd.alloc)) b)
  clear b
  cases hh : handB l
  · have HT := Lib.hid (show wtR l t v = ([], false) by unfold wtR; rw [if_neg (by simp [hh])])
    go_wp2_with fail
    go_ret2
    exact ⟨_, ret_two (by rw [HT.out]), by rw [HT.out]; exact OwnI.empty _ _ HB.out.size, by repeat (first | with_reducible exact Below.refl _ _ | with_reducible exact HB.out | with_reducible apply Below.drew | with_reducible apply bdN | with_reducible refine Below.alloc ?_ (by first | exact Nat.le_refl _ | (simp; done) | (simp; omega) | (have := HB.out.size; simp at *; omega)) _ | with_reducible refine Below.setCell ?_ (by first | exact Nat.le_refl _ | (simp; done) | (simp; omega) | (have := HB.out.size; simp at *; omega)) _)⟩
  · by_cases ht : 0 ≤ t ∧ t ≤ 3
    · by_cases hv : 0 ≤ v ∧ v ≤ 2
      · have HT := Lib.hid (show wtR l t v = (pl (fun x => tr x t.toNat == v) l n, true) by unfold wtR; rw [if_pos ⟨hh, ht, hv⟩, HN.out])
        obtain ⟨t0, t1⟩ := ht
        obtain ⟨v0, v1⟩ := hv
        have e0 : decide (t < 0) = false := by simp; omega
        have e1 : decide (4 ≤ t) = false := by simp; omega
        have e2 : decide (v < 0) = false := by simp; omega
        have e3 : decide (3 ≤ v) = false := by simp; omega
        go_wp2_with fail
        clear hh e0 e1 e2 e3
        go_loopw [8, 9, 10, 34] (fun o _ _ i wr => ∃ k : Nat, k ≤ n ∧ i = .int .i64 k ∧ Hid (OwnI wr w.heap.size o (pl (fun x => tr x t.toNat == v) l k)) ∧ Hid (Below w.heap.size w wr)) (fun _ _ _ i _ => n - (intOf i).toNat)
        case atStart => exact ⟨0, Nat.zero_le _, rfl, Lib.hid (OwnI.empty _ _ HB.out.size), Lib.hid (by repeat (first | with_reducible exact Below.refl _ _ | with_reducible exact HB.out | with_reducible apply Below.drew | with_reducible apply bdN | with_reducible refine Below.alloc ?_ (by first | exact Nat.le_refl _ | (simp; done) | (simp; omega) | (have := HB.out.size; simp at *; omega)) _ | with_reducible refine Below.setCell ?_ (by first | exact Nat.le_refl _ | (simp; done) | (simp; omega) | (have := HB.out.size; simp at *; omega)) _))⟩
        case round =>
          clear HB HR
          obtain ⟨k, hk, rfl, HO, HB⟩ := hrel
          by_cases hlt : k < n
          · obtain ⟨b, ob, x, rfl, hb, hx, c0, c1, c2, c3⟩ := (HR0.out.below HB.out).card (k := k) (by rw [HN.out]; exact hlt)
            have HX := Lib.hid hx
            have HL := Lib.hid (pl_len (fun x => tr x t.toNat == v) l k)
            clear hx
            have b0 : (0 : Int) ≤ (k : Int) := by omega
            have b1 : (k : Int) < (n : Int) := by omega
            have hsz := HB.out.size
            have HAx := Lib.hid (HB.out.alloc HB.out.size x.obj)
            rcases (show t = 0 ∨ t = 1 ∨ t = 2 ∨ t = 3 by omega) with rfl | rfl | rfl | rfl
            · cases hq : (x.a == v)
              · have HS := Lib.hid (pl_no (q := fun x => tr x (0 : Int).toNat == v) HX.out hq)
                go_wp2_with fail
                go_roundw
                case rel => exact ⟨k + 1, by omega, by go_num, by rw [HS.out]; exact Lib.hid (HO.out.alloc _), HAx⟩
                case measure => simp [intOf]; omega
              · have HS := Lib.hid (pl_yes (q := fun x => tr x (0 : Int).toNat == v) HX.out hq)
                go_wp2_with (at_builtin; refine append_int rfl (.tmp 44) (.tmp 46) rfl w.heap.size _ (pl (fun x => tr x (0 : Int).toNat == v) l k) (k : Int) (wr.alloc x.obj) (wr.heap.size + 1) (by simp) rfl rfl (HO.out.alloc _) (by have := HL.out; omega) HAx.out.size ?_; intro v1 w1 hO1 hB1)
                rw [← HS.out] at hO1
                go_roundw
                case rel => exact ⟨k + 1, by omega, by go_num, hO1, HAx.out.trans hB1⟩
                case measure => simp [intOf]; omega
            · cases hq : (x.b == v)
              · have HS := Lib.hid (pl_no (q := fun x => tr x (1 : Int).toNat == v) HX.out hq)
                go_wp2_with fail
                go_roundw
                case rel => exact ⟨k + 1, by omega, by go_num, by rw [HS.out]; exact Lib.hid (HO.out.alloc _), HAx⟩
                case measure => simp [intOf]; omega
              · have HS := Lib.hid (pl_yes (q := fun x => tr x (1 : Int).toNat == v) HX.out hq)
                go_wp2_with (at_builtin; refine append_int rfl (.tmp 44) (.tmp 46) rfl w.heap.size _ (pl (fun x => tr x (1 : Int).toNat == v) l k) (k : Int) (wr.alloc x.obj) (wr.heap.size + 1) (by simp) rfl rfl (HO.out.alloc _) (by have := HL.out; omega) HAx.out.size ?_; intro v1 w1 hO1 hB1)
                rw [← HS.out] at hO1
                go_roundw
                case rel => exact ⟨k + 1, by omega, by go_num, hO1, HAx.out.trans hB1⟩
                case measure => simp [intOf]; omega
            · cases hq : (x.c == v)
              · have HS := Lib.hid (pl_no (q := fun x => tr x (2 : Int).toNat == v) HX.out hq)
                go_wp2_with fail
                go_roundw
                case rel => exact ⟨k + 1, by omega, by go_num, by rw [HS.out]; exact Lib.hid (HO.out.alloc _), HAx⟩
                case measure => simp [intOf]; omega
              · have HS := Lib.hid (pl_yes (q := fun x => tr x (2 : Int).toNat == v) HX.out hq)
                go_wp2_with (at_builtin; refine append_int rfl (.tmp 44) (.tmp 46) rfl w.heap.size _ (pl (fun x => tr x (2 : Int).toNat == v) l k) (k : Int) (wr.alloc x.obj) (wr.heap.size + 1) (by simp) rfl rfl (HO.out.alloc _) (by have := HL.out; omega) HAx.out.size ?_; intro v1 w1 hO1 hB1)
                rw [← HS.out] at hO1
                go_roundw
                case rel => exact ⟨k + 1, by omega, by go_num, hO1, HAx.out.trans hB1⟩
                case measure => simp [intOf]; omega
            · cases hq : (x.d == v)
              · have HS := Lib.hid (pl_no (q := fun x => tr x (3 : Int).toNat == v) HX.out hq)
                go_wp2_with fail
                go_roundw
                case rel => exact ⟨k + 1, by omega, by go_num, by rw [HS.out]; exact Lib.hid (HO.out.alloc _), HAx⟩
                case measure => simp [intOf]; omega
              · have HS := Lib.hid (pl_yes (q := fun x => tr x (3 : Int).toNat == v) HX.out hq)
                go_wp2_with (at_builtin; refine append_int rfl (.tmp 44) (.tmp 46) rfl w.heap.size _ (pl (fun x => tr x (3 : Int).toNat == v) l k) (k : Int) (wr.alloc x.obj) (wr.heap.size + 1) (by simp) rfl rfl (HO.out.alloc _) (by have := HL.out; omega) HAx.out.size ?_; intro v1 w1 hO1 hB1)
                rw [← HS.out] at hO1
                go_roundw
                case rel => exact ⟨k + 1, by omega, by go_num, hO1, HAx.out.trans hB1⟩
                case measure => simp [intOf]; omega
          · obtain rfl : k = n := by omega
            go_wp2_with fail
            go_ret2
            exact ⟨_, ret_two (by rw [HT.out]), by rw [HT.out]; exact HO.out, HB.out⟩
      · have HT := Lib.hid (show wtR l t v = ([], false) by unfold wtR; rw [if_neg (fun h => hv h.2.2)])
        obtain ⟨t0, t1⟩ := ht
        rcases (show v < 0 ∨ 2 < v by omega) with hv' | hv'
        all_goals
          clear hv
          go_wp2_with fail
          go_ret2
          exact ⟨_, ret_two (by rw [HT.out]), by rw [HT.out]; exact OwnI.empty _ _ HB.out.size, by repeat (first | with_reducible exact Below.refl _ _ | with_reducible exact HB.out | with_reducible apply Below.drew | with_reducible apply bdN | with_reducible refine Below.alloc ?_ (by first | exact Nat.le_refl _ | (simp; done) | (simp; omega) | (have := HB.out.size; simp at *; omega)) _ | with_reducible refine Below.setCell ?_ (by first | exact Nat.le_refl _ | (simp; done) | (simp; omega) | (have := HB.out.size; simp at *; omega)) _)⟩
    · have HT := Lib.hid (show wtR l t v = ([], false) by unfold wtR; rw [if_neg (fun h => ht h.2.1)])
      rcases (show t < 0 ∨ 3 < t by omega) with ht' | ht'
      all_goals
        clear ht
        go_wp2_with fail
        go_ret2
        exact ⟨_, ret_two (by rw [HT.out]), by rw [HT.out]; exact OwnI.empty _ _ HB.out.size, by repeat (first | with_reducible exact Below.refl _ _ | with_reducible exact HB.out | with_reducible apply Below.drew | with_reducible apply bdN | with_reducible refine Below.alloc ?_ (by first | exact Nat.le_refl _ | (simp; done) | (simp; omega) | (have := HB.out.size; simp at *; omega)) _ | with_reducible refine Below.setCell ?_ (by first | exact Nat.le_refl _ | (simp; done) | (simp; omega) | (have := HB.out.size; simp at *; omega)) _)⟩
end Go.Proofs.Ytfnifkffhfhfmab.cards
