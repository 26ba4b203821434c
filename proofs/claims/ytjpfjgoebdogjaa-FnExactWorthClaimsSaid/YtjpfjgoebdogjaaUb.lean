/- A line that is taken: the model. -/
import Derived.Test.YtjpfjgoebdogjaaQr
import Derived.Test.YtjpfjgoebdogjaaQs
import Derived.Deep.RegionLaw
namespace Go.Proofs.Ytjpfjgoebdogjaa.deal
open Go.RowKit
open cards
set_option linter.unusedVariables false

theorem DBox.past {w w1 : World} {g : Nat} {x : Dv} {v : Value} (h : DBox w g x) (hg : w.grownBy w1 v.ownBlock) (h2 : ∀ k, v.ownBlock = some k → k ≠ g) : DBox w1 g x :=
  (hg.block g h.lt (fun e => h2 g e.symm rfl)).trans h
theorem DBox.setV {w : World} {g : Nat} {t : TypeId} {s n : Int} {v0 : Value} (h : DBox w g ⟨t, s, n, v0⟩) (v : Value) : DBox (w.setCell ⟨g, 2, none⟩ v) g ⟨t, s, n, v⟩ := by
  unfold DBox at h ⊢
  rw [heap_setCell_same w g 2 _ _ _ h]
  rfl
theorem Own.apart {w : World} {B : Nat} {v : Value} {l : List Cd} (h : Own w B v l) {p : Addr} (hp : ∀ g, v.ownBlock = some g → g ≠ p.block) (u : Value) : Own (w.setCell p u) B v l := by
  obtain ⟨hl, h0 | ⟨g, cap, cur, e, hb, hg, r⟩⟩ := h
  · exact ⟨hl, .inl h0⟩
  · subst e
    exact ⟨hl, .inr ⟨g, cap, cur, rfl, hb, (Below.heap_setCell w p u g (hp g rfl)).trans hg, r⟩⟩
/-- One card is appended, at a step of a region that draws; it is told where the new slice lies. -/
theorem step_append_at {ops : Array Oper} {o : Oper} {a : Act} {W : World} {K : Act → World → Prop} {Q : Exit → Act → World → Prop} {E : Prop} (hg : o.guard = none) (s x : Operand)
    (hop : o.op = .call { callee := .builtin .append, args := #[s, x], argTypes := #[22, 22] }) (B : Nat) (v : Value) (l l2 : List Cd) (p : Option Addr) (m c : Nat)
    (hs : a.eval s = v) (hx : a.eval x = .slice p m c) (hO : OwnN W B v l) (hm : l2.length = m) (hR : Rd W p (flat l2)) (h0 : p = none → c = 0) (hl : l.length + m ≤ 1000000000) (hB : B ≤ W.heap.size)
    (hK : ∀ v' w', OwnN w' B v' (l ++ l2) → Below B W w' → W.grownBy w' v.ownBlock → (v'.ownBlock = v.ownBlock ∨ v'.ownBlock = some W.heap.size) → K (a.put o.dst v') w') : if Region.wanted o (yielded ops a.tmps) = true then Oper.wp Try.prog o a W K Q else E := by
  have hw : Region.wanted o (yielded ops a.tmps) = true := by simp [Region.wanted, hg]
  rw [if_pos hw]
  obtain ⟨v', w', hrun, g1, g2, g3, g4, g5⟩ := run_append_cards W o.type B v l l2 p m c hO.1 hm hR h0 hl hB
  unfold Oper.wp
  simp only [execOp, hop, resolve, invoke, builtin, Sem.run_bind, Sem.run_pure, Result.andThen_ok, List.map_toArray, List.map_cons, List.map_nil, hs, hx, hrun]
  exact hK v' w' ⟨g1, g4 hO.2⟩ g2 g3 g5
theorem inA_parts {t : A3} {k : Nat} (h : inA t k = false) : (k : Int) ≠ t.a ∧ (k : Int) ≠ t.b ∧ (k : Int) ≠ t.c := by
  unfold inA at h
  have := of_decide_eq_false h
  exact ⟨fun e => this (.inl e), fun e => this (.inr (.inl e)), fun e => this (.inr (.inr e))⟩

set_option maxRecDepth 100000 in
set_option maxHeartbeats 4000000 in
theorem l4_take (s : Int) (a : Nat) (l : List Cd) (t : A3) (p : Option Addr) (n cp : Nat) (w : World) (hs : 0 ≤ s ∧ s ≤ 65535) (ha : a ≤ 81) (hn : l.length = n) (hl : n ≤ 81) (hr : Rd w p (flat l)) :
    Calls Try.prog 55 #[dval s a (.slice p n cp), t.val] w fun e w' => ∃ u, e = .returned (dval s (takeD ⟨s, a, l⟩ t).nx u) ∧ Own w' w.heap.size u (takeD ⟨s, a, l⟩ t).l ∧ Below w.heap.size w w' := by
  have HS := Lib.hid hs
  have HN := Lib.hid hn
  have HR0 := Lib.hid hr
  clear hs hn hr
  have hz3 : (((w.alloc (Dv.mk 31 s a (.slice p n cp)).obj).alloc t.obj).alloc (Dv.mk 31 0 0 (.slice none 0 0)).obj).heap.size = w.heap.size + 1 + 1 + 1 := by simp
  have HO : Hid (OwnN (((((w.alloc (Dv.mk 31 s a (.slice p n cp)).obj).alloc t.obj).alloc (Dv.mk 31 0 0 (.slice none 0 0)).obj).alloc (.cells #[] 34)).alloc (Dv.mk 31 s a (.slice (some ⟨w.heap.size + 1 + 1 + 1, 0, none⟩) 0 0)).obj) (w.heap.size + 3) (.slice (some ⟨w.heap.size + 1 + 1 + 1, 0, none⟩) 0 0) []) := Lib.hid (by
    have h := OwnN.empty (((w.alloc (Dv.mk 31 s a (.slice p n cp)).obj).alloc t.obj).alloc (Dv.mk 31 0 0 (.slice none 0 0)).obj) (w.heap.size + 3) (by rw [hz3]; exact Nat.le_refl _)
    rw [hz3] at h
    exact h.alloc _)
  have HK0 : Hid (DBox (((((w.alloc (Dv.mk 31 s a (.slice p n cp)).obj).alloc t.obj).alloc (Dv.mk 31 0 0 (.slice none 0 0)).obj).alloc (.cells #[] 34)).alloc (Dv.mk 31 s a (.slice (some ⟨w.heap.size + 1 + 1 + 1, 0, none⟩) 0 0)).obj) w.heap.size ⟨31, s, a, .slice p n cp⟩) := Lib.hid (((((DBox.newAt rfl rfl).alloc _).alloc _).alloc _).alloc _)
  have HK3 : Hid (TBox (((((w.alloc (Dv.mk 31 s a (.slice p n cp)).obj).alloc t.obj).alloc (Dv.mk 31 0 0 (.slice none 0 0)).obj).alloc (.cells #[] 34)).alloc (Dv.mk 31 s a (.slice (some ⟨w.heap.size + 1 + 1 + 1, 0, none⟩) 0 0)).obj) (w.heap.size + 1) t) := Lib.hid ((((TBox.newAt (by simp) rfl).alloc _).alloc _).alloc _)
  have HK4 : Hid (DBox (((((w.alloc (Dv.mk 31 s a (.slice p n cp)).obj).alloc t.obj).alloc (Dv.mk 31 0 0 (.slice none 0 0)).obj).alloc (.cells #[] 34)).alloc (Dv.mk 31 s a (.slice (some ⟨w.heap.size + 1 + 1 + 1, 0, none⟩) 0 0)).obj) (w.heap.size + 1 + 1) ⟨31, 0, 0, .slice none 0 0⟩) := Lib.hid (((DBox.newAt (by simp) rfl).alloc _).alloc _)
  have HK5 : Hid (DBox (((((w.alloc (Dv.mk 31 s a (.slice p n cp)).obj).alloc t.obj).alloc (Dv.mk 31 0 0 (.slice none 0 0)).obj).alloc (.cells #[] 34)).alloc (Dv.mk 31 s a (.slice (some ⟨w.heap.size + 1 + 1 + 1, 0, none⟩) 0 0)).obj) (w.heap.size + 1 + 1 + 1 + 1) ⟨31, s, a, .slice (some ⟨w.heap.size + 1 + 1 + 1, 0, none⟩) 0 0⟩) := Lib.hid (DBox.newAt (by simp) rfl)
  have HBz : Hid (Below w.heap.size w (((((w.alloc (Dv.mk 31 s a (.slice p n cp)).obj).alloc t.obj).alloc (Dv.mk 31 0 0 (.slice none 0 0)).obj).alloc (.cells #[] 34)).alloc (Dv.mk 31 s a (.slice (some ⟨w.heap.size + 1 + 1 + 1, 0, none⟩) 0 0)).obj)) := Lib.hid (by repeat (first | with_reducible exact Below.refl _ _ | with_reducible exact HB.out | with_reducible apply Below.drew | with_reducible apply bdN | with_reducible refine Below.alloc ?_ (by first | exact Nat.le_refl _ | with_reducible exact HB.out.size | omega | (simp; done) | (simp; omega) | (have := HB.out.size; simp at *; omega)) _ | with_reducible refine Below.setCell ?_ (by first | exact Nat.le_refl _ | with_reducible exact HB.out.size | omega | (simp; done) | (simp; omega) | (have := HB.out.size; simp at *; omega)) _))
  clear hz3
  go_enter Try.func55, Try.ntmps55
  go_wp2_with fail
  go_loopw [6] (fun i wr => ∃ (k : Nat) (o : Value), k ≤ n ∧ i = .int .i64 k ∧ Hid (OwnN wr (w.heap.size + 3) o (keep l t k)) ∧ Hid (∀ g, o.ownBlock = some g → g ≠ w.heap.size + 1 + 1 + 1 + 1) ∧ Hid (Below w.heap.size w wr) ∧ Hid (DBox wr w.heap.size ⟨31, s, a, .slice p n cp⟩) ∧ Hid (TBox wr (w.heap.size + 1) t) ∧ Hid (DBox wr (w.heap.size + 1 + 1) ⟨31, 0, 0, .slice none 0 0⟩) ∧ Hid (DBox wr (w.heap.size + 1 + 1 + 1 + 1) ⟨31, s, a, o⟩)) (fun i _ => n - (intOf i).toNat)
  case atStart => exact ⟨0, _, Nat.zero_le _, rfl, HO, Lib.hid (fun g e => by have e : some (w.heap.size + 1 + 1 + 1) = some g := e; injection e with e; omega), HBz, HK0, HK3, HK4, HK5⟩
  case round =>
    clear HO HK0 HK3 HK4 HK5 HBz
    obtain ⟨k, o, hk, rfl, HO, HAp, HB, K0, K3, K4, K5⟩ := hrel
    obtain ⟨k0a, k0b, k0c, k0d⟩ := K0.out.cell
    have k0z := K0.out.lt
    obtain ⟨k3a, k3b, k3c, k3d⟩ := K3.out.cell
    obtain ⟨k5a, k5b, k5c, k5d⟩ := K5.out.cell
    have k5z := K5.out.lt
    have k5f := K5.out.frozen
    by_cases hlt : k < n
    · have HR := Lib.hid (HR0.out.below HB.out)
      obtain ⟨bk, oo, x, rfl, hb, hx, c0, c1, c2, c3⟩ := HR.out.card (k := k) (by rw [HN.out]; exact hlt)
      have HX := Lib.hid hx
      have m2 : (0 : Int) ≤ (k : Int) := by omega
      have m3 : (k : Int) < (n : Int) := by omega
      have HL := Lib.hid (keep_le l t k)
      clear hx
      cases hi : inA t k
      · have HK := Lib.hid (keep_yes HX.out hi)
        obtain ⟨i1, i2, i3⟩ := inA_parts hi
        have j1 : ((k : Int) != t.a) = true := by simp [i1]
        have j2 : ((k : Int) != t.b) = true := by simp [i2]
        have j3 : ((k : Int) != t.c) = true := by simp [i3]
        obtain ⟨ml, hml⟩ : ∃ ml, (keep l t (k + 1)).length = ml := ⟨_, rfl⟩
        have HMl := Lib.hid hml
        clear hi i1 i2 i3 hml
        go_upto_region 6 with fail
        clear j1 j2 j3 k3a k3b k3c
        go_region_law (first
         | (refine step_append_at rfl (.tmp 37) (.tmp 43) rfl (w.heap.size + 3) o (keep l t k) [x] _ 1 1 rfl rfl ?_ rfl ?_ ?_ ?_ ?_ ?_
            · first | exact HO.out.alloc _ | exact (HO.out.alloc _).drew | exact HO.out.drew.alloc _
            · first | exact Rd.newAt rfl rfl | exact Rd.drew (Rd.newAt rfl rfl)
            · intro h; cases h
            · have := HL.out; omega
            · have := k5z; simp; omega
            intro v2 w7 hO2 hB2 hG2 hA2
            rw [← HK.out] at hO2
            obtain ⟨g2, c2, hv2, _, _⟩ := hO2.form
            rw [HMl.out] at hv2
            subst hv2
            have HO2 := Lib.hid hO2
            have HB2 := Lib.hid hB2
            have K5 := Lib.hid (DBox.past (by repeat (first | with_reducible exact K5.out | with_reducible apply DBox.drew | with_reducible apply DBox.alloc)) hG2 HAp.out)
            have HAp2 : Hid (∀ g, (Value.slice (some ⟨g2, 0, none⟩) ml c2).ownBlock = some g → g ≠ w.heap.size + 1 + 1 + 1 + 1) := Lib.hid (fun g e => by
              rcases hA2 with h | h
              · rw [h] at e; exact HAp.out g e
              · rw [h] at e; injection e with e; simp at e; have := k5z; omega)
            obtain ⟨k5a, k5b, k5c, k5d⟩ := K5.out.cell
            have k5z := K5.out.lt
            have k5f := K5.out.frozen
            clear hO2 hB2 hG2 hA2))
        all_goals
          go_wp2_with fail
          go_roundw
          case rel => exact ⟨k + 1, _, by omega, by go_num, Lib.hid ⟨Own.apart HO2.out.1 HAp2.out _, HO2.out.2⟩, HAp2,
            Lib.hid (Below.setCell (Below.trans (by repeat (first | with_reducible exact Below.refl _ _ | with_reducible exact HB.out | with_reducible apply Below.drew | with_reducible apply bdN | with_reducible refine Below.alloc ?_ (by first | exact Nat.le_refl _ | with_reducible exact HB.out.size | omega | (simp; done) | (simp; omega) | (have := HB.out.size; simp at *; omega)) _ | with_reducible refine Below.setCell ?_ (by first | exact Nat.le_refl _ | with_reducible exact HB.out.size | omega | (simp; done) | (simp; omega) | (have := HB.out.size; simp at *; omega)) _)) (HB2.out.mono (Nat.le_add_right _ 3))) (show w.heap.size ≤ w.heap.size + 1 + 1 + 1 + 1 by omega) _),
            Lib.hid (DBox.farW (DBox.under (by repeat (first | with_reducible exact K0.out | with_reducible apply DBox.drew | with_reducible apply DBox.alloc)) (by omega) HB2.out) (by omega) _ _),
            Lib.hid (TBox.far (TBox.under (by repeat (first | with_reducible exact K3.out | with_reducible apply TBox.drew | with_reducible apply TBox.alloc)) (by omega) HB2.out) (show w.heap.size + 1 ≠ w.heap.size + 1 + 1 + 1 + 1 by omega) _),
            Lib.hid (DBox.farW (DBox.under (by repeat (first | with_reducible exact K4.out | with_reducible apply DBox.drew | with_reducible apply DBox.alloc)) (by omega) HB2.out) (by omega) _ _),
            Lib.hid (DBox.setV K5.out _)⟩
          case measure => simp [intOf]; omega
      · have HK := Lib.hid (keep_no (l := l) hi)
        have hor : (k : Int) = t.a ∨ (k : Int) = t.b ∨ (k : Int) = t.c := by unfold inA at hi; exact of_decide_eq_true hi
        clear hi
        by_cases i1 : (k : Int) = t.a
        · have j1 : ((k : Int) != t.a) = false := by simp [i1]
          clear i1 hor
          go_wp2_with fail
          go_roundw
          case rel => exact ⟨k + 1, o, by omega, by go_num, by rw [HK.out]; exact HO, HAp, HB, K0, K3, K4, K5⟩
          case measure => simp [intOf]; omega
        · have j1 : ((k : Int) != t.a) = true := by simp [i1]
          by_cases i2 : (k : Int) = t.b
          · have j2 : ((k : Int) != t.b) = false := by simp [i2]
            clear i1 i2 hor
            go_wp2_with fail
            go_roundw
            case rel => exact ⟨k + 1, o, by omega, by go_num, by rw [HK.out]; exact HO, HAp, HB, K0, K3, K4, K5⟩
            case measure => simp [intOf]; omega
          · have j2 : ((k : Int) != t.b) = true := by simp [i2]
            have i3 : (k : Int) = t.c := by rcases hor with h | h | h; exact absurd h i1; exact absurd h i2; exact h
            have j3 : ((k : Int) != t.c) = false := by simp [i3]
            clear i1 i2 i3 hor
            go_wp2_with fail
            go_roundw
            case rel => exact ⟨k + 1, o, by omega, by go_num, by rw [HK.out]; exact HO, HAp, HB, K0, K3, K4, K5⟩
            case measure => simp [intOf]; omega
    · obtain rfl : k = n := by omega
      obtain ⟨m, hm⟩ : ∃ m, (keep l t k).length = m := ⟨_, rfl⟩
      have HMk := Lib.hid hm
      have hmn : m ≤ k := by rw [← hm]; exact keep_le l t k
      obtain ⟨go, co, rfl, _, hro⟩ := HO.out.form
      have HRo := Lib.hid hro
      have HN0 : Hid ((some ⟨go, 0, none⟩ : Option Addr) = none → co = 0) := Lib.hid (fun h => by cases h)
      rw [hm] at HO K5 k5c
      clear hm hro
      have HNe := Lib.hid (show needD l t = if (12 - (m : Int)) < 0 then 0 else 12 - (m : Int) by unfold needD; rw [HN.out, HMk.out]; split <;> split <;> omega)
      have HTk := Lib.hid (show takeD ⟨s, (a : Int), l⟩ t = layD ⟨s, (a : Int), keep l t k⟩ (needD l t) by unfold takeD; rw [show (Dl.mk s (a : Int) l).l.length = k from HN.out])
      have HNn := Lib.hid (need_nn l t)
      have HLm := Lib.hid (fun w => l1_most 0 (12 - (m : Int)) w)
      rw [← HNe.out] at HLm
      obtain ⟨q, hq⟩ : ∃ q, needD l t = q := ⟨_, rfl⟩
      rw [hq] at HLm HTk HNn
      have hwr : IntKind.i64.wrap (12 - (m : Int)) = 12 - (m : Int) := IntWalk.i64_in _ (by omega)
      clear hq
      go_upto_region 7 with fail
      go_region_held3 (fun w' => w'.cell? ⟨w.heap.size + 1 + 1 + 1 + 1, 0, none⟩ = some (.int .i64 s) ∧ w'.cell? ⟨w.heap.size + 1 + 1 + 1 + 1, 1, none⟩ = some (.int .i64 (a : Int)) ∧ w'.cell? ⟨w.heap.size + 1 + 1 + 1 + 1, 2, none⟩ = some (.slice (some ⟨go, 0, none⟩) m co)) (first | exact ⟨k5a, k5b, k5c⟩ | go_keep) (first
        | (go_at_call 76; refine (HLm.out _).mono ?_; rintro e w8 ⟨rfl, b⟩; have HB := Lib.hid (chain0 (w := w) (by repeat (first | with_reducible exact Below.refl _ _ | with_reducible exact HB.out | with_reducible apply Below.drew | with_reducible apply bdN | with_reducible refine Below.alloc ?_ (by first | exact Nat.le_refl _ | with_reducible exact HB.out.size | omega | (simp; done) | (simp; omega) | (have := HB.out.size; simp at *; omega)) _ | with_reducible refine Below.setCell ?_ (by first | exact Nat.le_refl _ | with_reducible exact HB.out.size | omega | (simp; done) | (simp; omega) | (have := HB.out.size; simp at *; omega)) _)) b); have HRo := Lib.hid (Rd.below (by repeat (first | with_reducible exact HRo.out | with_reducible apply Rd.drewN | with_reducible apply Rd.drew | with_reducible apply Rd.alloc)) b); have K4 : Hid (DBox _ (w.heap.size + 1 + 1) (⟨31, 0, 0, .slice none 0 0⟩)) := Lib.hid (DBox.below (by repeat (first | with_reducible exact K4.out | with_reducible apply DBox.drewN | with_reducible apply DBox.drew | (with_reducible refine DBox.newAt ?_ ?_ <;> first | (simp; done) | rfl) | with_reducible apply DBox.alloc)) b); have K5 : Hid (DBox _ (w.heap.size + 1 + 1 + 1 + 1) (⟨31, s, a, .slice (some ⟨go, 0, none⟩) m co⟩)) := Lib.hid (DBox.below (by repeat (first | with_reducible exact K5.out | with_reducible apply DBox.drewN | with_reducible apply DBox.drew | (with_reducible refine DBox.newAt ?_ ?_ <;> first | (simp; done) | rfl) | with_reducible apply DBox.alloc)) b); obtain ⟨k4a, k4b, k4c, k4d⟩ := K4.out.cell; have k4z := K4.out.lt; have k4f := K4.out.frozen; obtain ⟨k5a, k5b, k5c, k5d⟩ := K5.out.cell; have k5z := K5.out.lt; clear b)
        | (go_at_call 53; refine (l4_lay s a q (keep l t k) (some ⟨go, 0, none⟩) m co _ HS.out ha (by have := HNn.out; omega) HMk.out (by omega) (by repeat (first | with_reducible exact HRo.out | with_reducible apply Rd.drewN | with_reducible apply Rd.drew | with_reducible apply Rd.alloc)) HN0.out).mono ?_; rintro e w9 ⟨u, rfl, hu, b⟩; have HZ := Lib.hid (show w.heap.size + 3 ≤ _ from k4z); have HB := Lib.hid (chain0 (w := w) (by repeat (first | with_reducible exact Below.refl _ _ | with_reducible exact HB.out | with_reducible apply Below.drew | with_reducible apply bdN | with_reducible refine Below.alloc ?_ (by first | exact Nat.le_refl _ | with_reducible exact HB.out.size | omega | (simp; done) | (simp; omega) | (have := HB.out.size; simp at *; omega)) _ | with_reducible refine Below.setCell ?_ (by first | exact Nat.le_refl _ | with_reducible exact HB.out.size | omega | (simp; done) | (simp; omega) | (have := HB.out.size; simp at *; omega)) _)) b); have HRo := Lib.hid (Rd.below (by repeat (first | with_reducible exact HRo.out | with_reducible apply Rd.drewN | with_reducible apply Rd.drew | with_reducible apply Rd.alloc)) b); have K4 : Hid (DBox _ (w.heap.size + 1 + 1) (⟨31, 0, 0, .slice none 0 0⟩)) := Lib.hid (DBox.below (by repeat (first | with_reducible exact K4.out | with_reducible apply DBox.drewN | with_reducible apply DBox.drew | (with_reducible refine DBox.newAt ?_ ?_ <;> first | (simp; done) | rfl) | with_reducible apply DBox.alloc)) b); have K5 : Hid (DBox _ (w.heap.size + 1 + 1 + 1 + 1) (⟨31, s, a, .slice (some ⟨go, 0, none⟩) m co⟩)) := Lib.hid (DBox.below (by repeat (first | with_reducible exact K5.out | with_reducible apply DBox.drewN | with_reducible apply DBox.drew | (with_reducible refine DBox.newAt ?_ ?_ <;> first | (simp; done) | rfl) | with_reducible apply DBox.alloc)) b); obtain ⟨k4a, k4b, k4c, k4d⟩ := K4.out.cell; have k4z := K4.out.lt; have k4f := K4.out.frozen; obtain ⟨k5a, k5b, k5c, k5d⟩ := K5.out.cell; have k5z := K5.out.lt; have HU := Lib.hid (hu.base HZ.out); obtain ⟨pv, cv, rfl, _, _, _⟩ := HU.out.form; clear hu b))
      all_goals
        go_wp2_with fail
        try simp only [Exit.inBlock, Exit.then]
        refine bodyPost_ret (res_deal Try.results55 rfl (K4.out.set_ _ _ _)) rfl ?_
        exact ⟨_, by rw [HTk.out], by rw [HTk.out]; exact (Own.far (Own.far (Own.far HU.out (Nat.lt_succ_self _) _) (Nat.lt_succ_self _) _) (Nat.lt_succ_self _) _).base (show w.heap.size ≤ w.heap.size + 3 by omega), by repeat (first | with_reducible exact Below.refl _ _ | with_reducible exact HB.out | with_reducible apply Below.drew | with_reducible apply bdN | with_reducible refine Below.alloc ?_ (by first | exact Nat.le_refl _ | with_reducible exact HB.out.size | omega | (simp; done) | (simp; omega) | (have := HB.out.size; simp at *; omega)) _ | with_reducible refine Below.setCell ?_ (by first | exact Nat.le_refl _ | with_reducible exact HB.out.size | omega | (simp; done) | (simp; omega) | (have := HB.out.size; simp at *; omega)) _)⟩

end Go.Proofs.Ytjpfjgoebdogjaa.deal
