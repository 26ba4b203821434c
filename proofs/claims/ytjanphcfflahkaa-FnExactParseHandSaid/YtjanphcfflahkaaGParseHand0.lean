/- Merged texts: U9. -/
import Derived.Test.YtjanphcfflahkaaU8
import Derived.Test.YtjanphcfflahkaaPu
/- ParseHand: the model's. -/
namespace Go.Proofs.Ytjanphcfflahkaa.cards
open Go.RowKit
set_option linter.unusedVariables false

/-- A row of texts in a block of its own. -/
structure WB (w : World) (g : Nat) (cur : Array Value) (P : List ByteArray) : Prop where
  at_ : w.heap[g]? = some (.cells cur 9 (0, 0))
  has : ∀ (k : Nat) (x : ByteArray), P[k]? = some x → cur[k]? = some (Value.string x)
theorem WB.cell {w : World} {g k : Nat} {cur : Array Value} {P : List ByteArray} {x : ByteArray} (h : WB w g cur P) (hx : P[k]? = some x) : w.cell? ⟨g, k, none⟩ = some (.string x) := by
  simp [World.cell?, h.at_, h.has k x hx]
theorem WB.below {w w1 : World} {g : Nat} {cur : Array Value} {P : List ByteArray} (h : WB w g cur P) (hb : Below w.heap.size w w1) : WB w1 g cur P := ⟨(hb.block g (Array.getElem?_eq_some_iff.1 h.at_).1).trans h.at_, h.has⟩
theorem WB.alloc {w : World} {g : Nat} {cur : Array Value} {P : List ByteArray} (h : WB w g cur P) (o : Obj) : WB (w.alloc o) g cur P := h.below ((Below.refl _ _).alloc (Nat.le_refl _) o)
theorem WB.drew {w : World} {g : Nat} {cur : Array Value} {P : List ByteArray} (h : WB w g cur P) : WB w.drew g cur P := ⟨h.at_, h.has⟩
theorem WB.drewN {w : World} {g : Nat} {cur : Array Value} {P : List ByteArray} (h : WB w g cur P) (k : Nat) : WB (w.drewN k) g cur P := ⟨h.at_, h.has⟩
theorem WB.past {w w1 : World} {g B : Nat} {cur : Array Value} {P : List ByteArray} {v : Value} {l : List Cd} (h : WB w g cur P) (hO : cards.Own w B v l) (hg : w.grownBy w1 v.ownBlock) : WB w1 g cur P := by
  refine ⟨(hg.block g (Array.getElem?_eq_some_iff.1 h.at_).1 (fun e => ?_)).trans h.at_, h.has⟩
  rcases hO.2 with ⟨rfl, _⟩ | ⟨q, cap, cu, rfl, _, hq, _⟩
  · simp [Value.ownBlock] at e
  · simp [Value.ownBlock] at e
    subst e
    have := h.at_.symm.trans hq
    simp at this
theorem wb_of {w : World} {B : Nat} {v : Value} {P : List ByteArray} (h : w.ownsRow B 9 1 v P.length (P.map Value.string)) (h0 : 0 < P.length) : ∃ g c cur, v = .slice (some ⟨g, 0, none⟩) P.length c ∧ B ≤ g ∧ WB w g cur P := by
  rcases h.2 with ⟨_, e⟩ | ⟨g, cap, cur, rfl, hB, hg, _, _, _, hx⟩
  · omega
  · refine ⟨g, cap, cur, rfl, hB, hg, fun k x hk => ?_⟩
    have h1 : (cur.toList.take (P.length * 1))[k]? = some (.string x) := by rw [hx, List.getElem?_map, hk]; rfl
    have hkl := (List.getElem?_eq_some_iff.1 hk).1
    rw [List.getElem?_take, if_pos (by omega)] at h1
    simpa using h1
theorem rd_take {l : List ByteArray} {k : Nat} {x : ByteArray} (h : rdAll (l.take k) = true) (hx : l[k]? = some x) (hr : (readC x).2 = true) : rdAll (l.take (k + 1)) = true := by
  rw [take_snoc hx]; exact rd_more h hr
theorem rd_no {l : List ByteArray} {k : Nat} {x : ByteArray} (hx : l[k]? = some x) (hr : (readC x).2 = false) : rdAll l = false := by
  refine bad_pre (pre := l.take k) (x := x) ?_ hr
  rw [← take_snoc hx]
  exact List.take_prefix _ _
theorem rdL_take {l : List ByteArray} {k : Nat} {x : ByteArray} (hx : l[k]? = some x) : rdL (l.take (k + 1)) = rdL (l.take k) ++ [(readC x).1] := by rw [take_snoc hx, rdL_app]
theorem parts_pos (s : ByteArray) (b : UInt8) : 0 < (cut.parts s b).length := by simp [cut.parts]

set_option maxRecDepth 100000 in
set_option maxHeartbeats 4000000 in
theorem spec_ph (s : ByteArray) (w : World) (hs : s.size ≤ 1048576) :
    Calls Try.prog 22 #[.string s] w fun e w' => ∃ v, e = .returned (.tuple #[v, .bool (phR s).2]) ∧ cards.Own w' w.heap.size v (phR s).1 ∧ Below w.heap.size w w' := by
  have HOz := Lib.hid (Own.empty w w.heap.size (Nat.le_refl _))
  by_cases h0 : s.size = 0
  · have HT := Lib.hid (ph_empty h0)
    have he := str_empty h0
    rw [HT.out]
    clear h0
    go_enter Try.func22, Try.ntmps22
    go_wp2_with fail
    go_ret2
    exact ⟨_, rfl, HOz.out, by repeat (first | with_reducible exact Below.refl _ _ | with_reducible exact HB.out | with_reducible apply Below.drew | with_reducible apply bdN | with_reducible refine Below.alloc ?_ (by first | exact Nat.le_refl _ | with_reducible exact HB.out.size | omega | (simp; done) | (simp; omega) | (have := HB.out.size; simp at *; omega)) _ | with_reducible refine Below.setCell ?_ (by first | exact Nat.le_refl _ | with_reducible exact HB.out.size | omega | (simp; done) | (simp; omega) | (have := HB.out.size; simp at *; omega)) _)⟩
  · have he := str_some h0
    by_cases h1 : 135 < s.size
    · have HT := Lib.hid (ph_long (s := s) (by omega))
      rw [HT.out]
      clear h0
      go_enter Try.func22, Try.ntmps22
      go_wp2_with fail
      go_ret2
      exact ⟨_, rfl, HOz.out, by repeat (first | with_reducible exact Below.refl _ _ | with_reducible exact HB.out | with_reducible apply Below.drew | with_reducible apply bdN | with_reducible refine Below.alloc ?_ (by first | exact Nat.le_refl _ | with_reducible exact HB.out.size | omega | (simp; done) | (simp; omega) | (have := HB.out.size; simp at *; omega)) _ | with_reducible refine Below.setCell ?_ (by first | exact Nat.le_refl _ | with_reducible exact HB.out.size | omega | (simp; done) | (simp; omega) | (have := HB.out.size; simp at *; omega)) _)⟩
    · have h5 : s.size ≤ 135 := by omega
      have HS := Lib.hid (fun w => cut.split_any s 32 w hs)
      have HT1 := Lib.hid (fun h => ph_bad (s := s) h0 h)
      have HT2 := Lib.hid (fun h => ph_no (s := s) h0 h)
      have HT3 := Lib.hid (fun h h2 => ph_yes (s := s) h0 h5 h h2)
      have HPp := Lib.hid (parts_pos s 32)
      have HPl := Lib.hid (cut.parts_len s 32)
      obtain ⟨P, hP⟩ : ∃ P, cut.parts s 32 = P := ⟨_, rfl⟩
      rw [hP] at HS HT1 HT2 HT3 HPp HPl
      obtain ⟨n, hn⟩ : ∃ n, P.length = n := ⟨_, rfl⟩
      have HN := Lib.hid hn
      rw [hn] at HPl HPp HS
      have hn0 := HPp.out
      have hn1 : n ≤ 136 := by have := HPl.out; omega
      clear h0 hP hn HPl HPp
      go_enter Try.func22, Try.ntmps22
      go_wp2_with fail
      refine ((HS.out _)).mono ?_
      rintro e w1 ⟨v, rfl, ho, b⟩
      have Sw1 := Lib.hid b.size
      have HB := Lib.hid (chain0 (w := w) (by repeat (first | with_reducible exact Below.refl _ _ | with_reducible exact HB.out | with_reducible apply Below.drew | with_reducible apply bdN | with_reducible refine Below.alloc ?_ (by first | exact Nat.le_refl _ | with_reducible exact HB.out.size | omega | (simp; done) | (simp; omega) | (have := HB.out.size; simp at *; omega)) _ | with_reducible refine Below.setCell ?_ (by first | exact Nat.le_refl _ | with_reducible exact HB.out.size | omega | (simp; done) | (simp; omega) | (have := HB.out.size; simp at *; omega)) _)) b)
      have HOz := Lib.hid (cards.Own.below (by repeat (first | with_reducible exact HOz.out | with_reducible apply cards.Own.drewN | with_reducible apply cards.Own.drew | with_reducible apply cards.Own.alloc)) b)
      clear b
      rw [← HN.out] at ho
      obtain ⟨gw, cw, cur, rfl, hgw, hw⟩ := wb_of ho (by rw [HN.out]; exact hn0)
      rw [HN.out]
      have HW := Lib.hid hw
      have hgl := (Array.getElem?_eq_some_iff.1 hw.at_).1
      clear ho hw hgw
      go_wp2_with fail
      go_loopw [4, 6, 7, 8] (fun u i _ _ wr => ∃ (k : Nat) (pu : Option Addr) (cu : Nat), k ≤ n ∧ u = .slice pu k cu ∧ i = .int .i64 k ∧ Hid (rdAll (P.take k) = true) ∧ Hid (cards.Own wr w.heap.size (.slice pu k cu) (rdL (P.take k))) ∧ Hid (WB wr gw cur P) ∧ Hid (Below w.heap.size w wr)) (fun _ i _ _ _ => n - (intOf i).toNat)
      case atStart => exact ⟨0, _, _, Nat.zero_le _, rfl, rfl, rfl, HOz, HW, HB⟩
      case round =>
        clear HOz HB
        obtain ⟨k, pu, cu, hk, rfl, rfl, HA, HO, HW, HB⟩ := hrel
        have HK0 : Hid (k = (rdL (P.take k)).length) := Lib.hid (by rw [rdL_len, List.length_take, HN.out]; omega)
        have m0 : (0 : Int) ≤ (k : Int) := by omega
        by_cases hlt : k < n
        · have m1 : (k : Int) < (n : Int) := by omega
          obtain ⟨x, hx⟩ : ∃ x, P[k]? = some x := ⟨_, List.getElem?_eq_getElem (by rw [HN.out]; exact hlt)⟩
          have c0 := HW.out.cell hx
          have HC := Lib.hid (l2_read x)
          have HE := Lib.hid (rdL_take hx)
          have HTk := Lib.hid (fun h => rd_take HA.out hx h)
          have HTn := Lib.hid (fun h => HT1.out (rd_no hx h))
          obtain ⟨y, hy⟩ : ∃ y, (readC x).1 = y := ⟨_, rfl⟩
          obtain ⟨ok, hok⟩ : ∃ ok, (readC x).2 = ok := ⟨_, rfl⟩
          rw [hy] at HE
          rw [hok] at HTk HTn
          have HC2 : Hid (∀ w, Calls Try.prog 58 #[.string x] w fun e w' => e = .returned (.tuple #[y.val, .bool ok]) ∧ Below w.heap.size w w') := by rw [← hy, ← hok]; exact HC
          clear hx hy hok HC
          cases ok
          · have HT := Lib.hid (HTn.out rfl)
            go_wp2_with fail
            refine ((HC2.out _)).mono ?_
            rintro e w2 ⟨rfl, b⟩
            have Sw2 := Lib.hid b.size
            have HB := Lib.hid (chain0 (w := w) (by repeat (first | with_reducible exact Below.refl _ _ | with_reducible exact HB.out | with_reducible apply Below.drew | with_reducible apply bdN | with_reducible refine Below.alloc ?_ (by first | exact Nat.le_refl _ | with_reducible exact HB.out.size | omega | (simp; done) | (simp; omega) | (have := HB.out.size; simp at *; omega)) _ | with_reducible refine Below.setCell ?_ (by first | exact Nat.le_refl _ | with_reducible exact HB.out.size | omega | (simp; done) | (simp; omega) | (have := HB.out.size; simp at *; omega)) _)) b)
            have HO := Lib.hid (cards.Own.below (by repeat (first | with_reducible exact HO.out | with_reducible apply cards.Own.drewN | with_reducible apply cards.Own.drew | with_reducible apply cards.Own.alloc)) b)
            have HW := Lib.hid (WB.below (by repeat (first | with_reducible exact HW.out | with_reducible apply WB.drewN | with_reducible apply WB.drew | with_reducible apply WB.alloc)) b)
            clear b
            have HOe := Lib.hid (Own.empty (w2.alloc y.obj) w.heap.size (by have := HB.out.size; simp; omega))
            simp only [World.size_alloc] at HOe
            go_wp2_with fail
            go_ret2
            rw [HT.out]
            exact ⟨_, rfl, HOe.out, by repeat (first | with_reducible exact Below.refl _ _ | with_reducible exact HB.out | with_reducible apply Below.drew | with_reducible apply bdN | with_reducible refine Below.alloc ?_ (by first | exact Nat.le_refl _ | with_reducible exact HB.out.size | omega | (simp; done) | (simp; omega) | (have := HB.out.size; simp at *; omega)) _ | with_reducible refine Below.setCell ?_ (by first | exact Nat.le_refl _ | with_reducible exact HB.out.size | omega | (simp; done) | (simp; omega) | (have := HB.out.size; simp at *; omega)) _)⟩
          · have HT := Lib.hid (HTk.out rfl)
            go_wp2_with fail
            refine ((HC2.out _)).mono ?_
            rintro e w2 ⟨rfl, b⟩
            have Sw2 := Lib.hid b.size
            have HB := Lib.hid (chain0 (w := w) (by repeat (first | with_reducible exact Below.refl _ _ | with_reducible exact HB.out | with_reducible apply Below.drew | with_reducible apply bdN | with_reducible refine Below.alloc ?_ (by first | exact Nat.le_refl _ | with_reducible exact HB.out.size | omega | (simp; done) | (simp; omega) | (have := HB.out.size; simp at *; omega)) _ | with_reducible refine Below.setCell ?_ (by first | exact Nat.le_refl _ | with_reducible exact HB.out.size | omega | (simp; done) | (simp; omega) | (have := HB.out.size; simp at *; omega)) _)) b)
            have HO := Lib.hid (cards.Own.below (by repeat (first | with_reducible exact HO.out | with_reducible apply cards.Own.drewN | with_reducible apply cards.Own.drew | with_reducible apply cards.Own.alloc)) b)
            have HW := Lib.hid (WB.below (by repeat (first | with_reducible exact HW.out | with_reducible apply WB.drewN | with_reducible apply WB.drew | with_reducible apply WB.alloc)) b)
            clear b
            have HOa := Lib.hid (HO.out.alloc y.obj)
            have HWa := Lib.hid (HW.out.alloc y.obj)
            have HBa : Hid (Below w.heap.size w (w2.alloc y.obj)) := Lib.hid (HB.out.alloc HB.out.size _)
            go_wp2_with (at_builtin; refine append_cd_at rfl (.tmp 36) (.tmp 38) rfl w.heap.size _ (rdL (P.take k)) y (w2.alloc y.obj) (w2.heap.size + 1) (World.size_alloc _ _) rfl rfl HOa.out (by have := HK0.out; omega) HBa.out.size ?_; intro v1 w5 hO1 hB1 hG1 hA1; have HO1 := Lib.hid hO1; have HB1 := Lib.hid (HBa.out.trans hB1); have HW1 := Lib.hid (HWa.out.past HOa.out hG1); clear hO1 hB1 hG1 hA1)
            rw [← HE.out] at HO1
            obtain ⟨p2, c2, rfl, _⟩ := HO1.out.form
            have e2 : (rdL (P.take (k + 1))).length = k + 1 := by rw [rdL_len, List.length_take, HN.out]; omega
            rw [e2] at HO1 ⊢
            go_roundw
            case rel => exact ⟨k + 1, p2, c2, by omega, rfl, by go_num, HT, HO1, HW1, HB1⟩
            case measure => simp [intOf]; omega
        · obtain rfl : k = n := by omega
          have e1 : P.take k = P := by rw [← HN.out, List.take_length]
          have HA2 := HA.out
          rw [e1] at HA2 HO HK0
          have HTa := Lib.hid (HT2.out)
          have HTb := Lib.hid (HT3.out HA2)
          clear HA HA2 HT1 HT2 HT3 e1 HW
          have HH := Lib.hid (fun p c w h => l2_hand (rdL P) p k c w HK0.out.symm (by omega) h)
          cases hh : handB (rdL P)
          · have HT := Lib.hid (HTa.out hh)
            rw [hh] at HH
            go_wp2_with fail
            refine ((HH.out _ _ _ (HO.out.rd))).mono ?_
            rintro e w2 ⟨rfl, b⟩
            have Sw2 := Lib.hid b.size
            have HB := Lib.hid (chain0 (w := w) (by repeat (first | with_reducible exact Below.refl _ _ | with_reducible exact HB.out | with_reducible apply Below.drew | with_reducible apply bdN | with_reducible refine Below.alloc ?_ (by first | exact Nat.le_refl _ | with_reducible exact HB.out.size | omega | (simp; done) | (simp; omega) | (have := HB.out.size; simp at *; omega)) _ | with_reducible refine Below.setCell ?_ (by first | exact Nat.le_refl _ | with_reducible exact HB.out.size | omega | (simp; done) | (simp; omega) | (have := HB.out.size; simp at *; omega)) _)) b)
            have HO := Lib.hid (cards.Own.below (by repeat (first | with_reducible exact HO.out | with_reducible apply cards.Own.drewN | with_reducible apply cards.Own.drew | with_reducible apply cards.Own.alloc)) b)
            clear b
            have HOe := Lib.hid (Own.empty w2 w.heap.size HB.out.size)
            go_wp2_with fail
            go_ret2
            rw [HT.out]
            exact ⟨_, rfl, HOe.out, by repeat (first | with_reducible exact Below.refl _ _ | with_reducible exact HB.out | with_reducible apply Below.drew | with_reducible apply bdN | with_reducible refine Below.alloc ?_ (by first | exact Nat.le_refl _ | with_reducible exact HB.out.size | omega | (simp; done) | (simp; omega) | (have := HB.out.size; simp at *; omega)) _ | with_reducible refine Below.setCell ?_ (by first | exact Nat.le_refl _ | with_reducible exact HB.out.size | omega | (simp; done) | (simp; omega) | (have := HB.out.size; simp at *; omega)) _)⟩
          · have HT := Lib.hid (HTb.out hh)
            rw [hh] at HH
            go_wp2_with fail
            refine ((HH.out _ _ _ (HO.out.rd))).mono ?_
            rintro e w2 ⟨rfl, b⟩
            have Sw2 := Lib.hid b.size
            have HB := Lib.hid (chain0 (w := w) (by repeat (first | with_reducible exact Below.refl _ _ | with_reducible exact HB.out | with_reducible apply Below.drew | with_reducible apply bdN | with_reducible refine Below.alloc ?_ (by first | exact Nat.le_refl _ | with_reducible exact HB.out.size | omega | (simp; done) | (simp; omega) | (have := HB.out.size; simp at *; omega)) _ | with_reducible refine Below.setCell ?_ (by first | exact Nat.le_refl _ | with_reducible exact HB.out.size | omega | (simp; done) | (simp; omega) | (have := HB.out.size; simp at *; omega)) _)) b)
            have HO := Lib.hid (cards.Own.below (by repeat (first | with_reducible exact HO.out | with_reducible apply cards.Own.drewN | with_reducible apply cards.Own.drew | with_reducible apply cards.Own.alloc)) b)
            clear b
            go_wp2_with fail
            go_ret2
            rw [HT.out]
            exact ⟨_, rfl, HO.out, by repeat (first | with_reducible exact Below.refl _ _ | with_reducible exact HB.out | with_reducible apply Below.drew | with_reducible apply bdN | with_reducible refine Below.alloc ?_ (by first | exact Nat.le_refl _ | with_reducible exact HB.out.size | omega | (simp; done) | (simp; omega) | (have := HB.out.size; simp at *; omega)) _ | with_reducible refine Below.setCell ?_ (by first | exact Nat.le_refl _ | with_reducible exact HB.out.size | omega | (simp; done) | (simp; omega) | (have := HB.out.size; simp at *; omega)) _)⟩
end Go.Proofs.Ytjanphcfflahkaa.cards

