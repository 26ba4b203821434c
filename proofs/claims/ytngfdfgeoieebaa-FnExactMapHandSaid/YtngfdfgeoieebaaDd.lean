/- Maps: MapHand, the model's; both. -/
import Derived.Test.YtngfdfgeoieebaaDe
import Derived.Test.YtngfdfgeoieebaaRm
namespace Go.Proofs.Ytngfdfgeoieebaa.maps
open Go.RowKit
open cards reg
set_option linter.unusedVariables false

theorem exec_indexS {k n : Nat} (hk : k < n) {a : Act} {o : Oper} {p q : Operand} (ho : o.op = .indexAddr 36 p q) {b off cp : Nat} (hp : a.eval p = .slice (some ⟨b, off, none⟩) n cp) (hq : a.eval q = .int .i64 k) (w : World) :
    (execOp a.eval o).run Try.prog w = .ok (.value (.pointer (some ⟨b, off + k * 4, none⟩))) w := by
  have h0 : (0 : Int) ≤ (k : Int) := by omega
  have h1 : (k : Int) < (n : Int) := by omega
  unfold execOp
  rw [ho]
  simp only [hp, hq]
  go_simp
theorem chain_loadM {ops : Array Oper} {S I : World → Prop} {n0 : Nat} {obj : Obj} {fin : Act → (World → Prop) → Prop} (d : Tmp) {i : Nat} {r : List (Bool × Nat)} {a : Act} {o : Oper} (ho : ops[i]? = some o) (hd : o.dst = some d) (hg : o.guard = none)
    (T : TypeId) (x : Operand) (hx : o.op = .load T x) {g off : Nat} (hp : a.eval x = .pointer (some ⟨g, off, none⟩)) (cs : List Value) {D : TypeDesc} (hS : ∀ w, S w → w.rangeAt g off cs)
    (hu : Try.prog.underlying T = some D) (hD : D.isRow = true) (hi : (Try.prog.info? T).map (·.size) = some cs.length)
    (hr : chainA Try.prog ops S n0 obj fin r (a.put (some d) (.agg cs.toArray)) I) : chainA Try.prog ops S n0 obj fin ((true, i) :: r) a I :=
  ⟨o, .agg cs.toArray, ho, yieldsIf_load_mid (wanted_of hg) T x hx g off hp cs D hS hu hD hi, hd ▸ hr⟩

set_option maxRecDepth 100000 in
set_option maxHeartbeats 4000000 in
theorem l5_hand (m : Mp) (l : List Cd) (p : Option Addr) (n cp : Nat) (w : World) (hm : m.ok = true) (hn : l.length = n) (hl : n ≤ 81) (hr : Rd w p (flat l)) (hok : l.all Cd.ok = true) :
    Calls Try.prog 63 #[m.val, .slice p n cp] w fun e w' => ∃ u, e = .returned u ∧ OwnN w' w.heap.size u (allPut (imgs m l)) ∧ Below w.heap.size w w' := by
  have HN := Lib.hid hn
  have HK := Lib.hid hok
  have HM := Lib.hid hm
  have HR0 := Lib.hid (Rd.alloc hr (Mv.obj ⟨28, m⟩))
  have K0 : Hid (MBox (w.alloc (Mv.obj ⟨28, m⟩)) w.heap.size ⟨28, m⟩) := Lib.hid (MBox.newAt rfl rfl)
  have HB : Hid (Below w.heap.size w (w.alloc (Mv.obj ⟨28, m⟩))) := Lib.hid ((Below.refl _ _).alloc (Nat.le_refl _) _)
  clear hm hn hr hok
  go_enter Try.func63, Try.ntmps63
  go_upto_region 1 with fail
  generalize w.alloc (Mv.obj ⟨28, m⟩) = W at *
  have HO := Lib.hid (OwnN.empty W w.heap.size HB.out.size)
  have HW := Lib.hid ((Below.refl W.heap.size W).alloc (Nat.le_refl _) (.cells #[] 22))
  go_wp2_with fail
  go_loopw [5, 6] (fun u i wr => ∃ k : Nat, k ≤ n ∧ i = .int .i64 k ∧ Hid (OwnN wr w.heap.size u (allPut ((imgs m l).take k))) ∧ Hid (Below W.heap.size W wr)) (fun _ i _ => n - (intOf i).toNat)
  case atStart => exact ⟨0, Nat.zero_le _, rfl, HO, HW⟩
  case round =>
    clear HO HW
    obtain ⟨k, hk, rfl, HO, HW⟩ := hrel
    have m0 : (0 : Int) ≤ (k : Int) := by omega
    by_cases hlt : k < n
    · have HR := Lib.hid (Rd.below HR0.out HW.out)
      obtain ⟨b, o, x, rfl, hb, hx, c0, c1, c2, c3⟩ := HR.out.card (k := k) (by rw [HN.out]; exact hlt)
      have HX := Lib.hid (ok_at HK.out hx)
      have HE := Lib.hid (allPut_snoc (imgs_at (m := m) hx))
      have HTk := Lib.hid (take_ok (imgs_ok HM.out l) k)
      have HI := Lib.hid (allPut_is HTk.out)
      have HL := Lib.hid (allPut_le81 HTk.out)
      have m1 : (k : Int) < (n : Int) := by omega
      have HC : Hid (∀ w', BI wr w' → w'.rangeAt b (o + k * 4) [.int .i64 x.a, .int .i64 x.b, .int .i64 x.c, .int .i64 x.d]) := Lib.hid (fun w' h j v hv => by
        have hj : j < 4 := by have := (List.getElem?_eq_some_iff.1 hv).1; simpa using this
        have e := Below.cell h (p := ⟨b, o + k * 4 + j, none⟩) hb
        rw [e]
        rcases (show j = 0 ∨ j = 1 ∨ j = 2 ∨ j = 3 by omega) with rfl | rfl | rfl | rfl
        · exact c0.trans hv
        · exact c1.trans hv
        · exact c2.trans hv
        · exact c3.trans hv)
      have KM := Lib.hid (MBox.below K0.out HW.out)
      clear hx c0 c1 c2 c3
      obtain ⟨g, c, rfl, hc, hr⟩ := HO.out.form
      have HRo := Lib.hid hr
      have HIx := Lib.hid (img_ok HM.out x)
      clear hr
      go_upto_region 5 with fail
      refine region_BI [(true, 0), (true, 1), (true, 2), (true, 3), (true, 4), (true, 5), (false, 6), (false, 7), (true, 8)] (by kernel_rfl) rfl (by kernel_rfl) ?_
      refine chain_pure 14 (v := .slice (some ⟨g, 0, none⟩) (allPut ((imgs m l).take k)).length c) rfl rfl rfl (fun w => by kernel_rfl) ?_
      refine chain_load 15 rfl rfl rfl 28 _ rfl rfl m.vals (fun w h => MBox.below KM.out h) Try.underlying28 rfl (by kernel_rfl) ?_
      refine chain_pure 16 (v := .slice (some ⟨b, o, none⟩) n cp) rfl rfl rfl (fun w => by kernel_rfl) ?_
      refine chain_pure 17 (v := .int .i64 k) rfl rfl rfl (fun w => by kernel_rfl) ?_
      refine chain_pure 18 (v := .pointer (some ⟨b, o + k * 4, none⟩)) rfl rfl rfl (exec_indexS (cp := cp) hlt rfl (by kernel_rfl) (by kernel_rfl)) ?_
      refine chain_loadM 19 rfl rfl rfl 22 _ rfl rfl [.int .i64 x.a, .int .i64 x.b, .int .i64 x.c, .int .i64 x.d] HC.out Try.underlying22 rfl (by kernel_rfl) ?_
      refine chain_call 20 rfl rfl rfl (fun w => by kernel_rfl) (fun w h => l5_card m x w HM.out HX.out) ?_
      refine chain_callE 21 rfl rfl rfl (fun w => by kernel_rfl) (fun wy hy => (l2_put (allPut ((imgs m l).take k)) (img m x) g 0 _ c wy rfl (by have := HL.out; omega) hc (HRo.out.below hy) HI.out.2.1 HIx.out HI.out.1).mono ?_)
      rintro e wz ⟨u, rfl, hu, b9⟩
      rw [← HE.out] at hu
      refine ⟨_, rfl, b9, fun w' => BI wr w' ∧ OwnN w' wr.heap.size u (allPut ((imgs m l).take (k + 1))), ⟨fun _ h => h.1, fun _ h => h.1.size, fun _ h => ⟨Below.alloc h.1 h.1.size _, h.2.alloc _⟩⟩, ⟨BI.next hy b9, OwnN.base hu hy.size⟩, ?_⟩
      clear hy b9 hu
      refine chain_pure 5 (v := u) rfl rfl rfl (fun w => by kernel_rfl) ?_
      clear wy wz
      rintro w2 ⟨b2, hu⟩
      simp only [Act.put, List.setIfInBounds_toArray, List.set_cons_zero, List.set_cons_succ]
      have HZ := HW.out.size
      have HU := Lib.hid (OwnN.base hu (B' := w.heap.size) (by have := HB.out.size; omega))
      have HW := Lib.hid (chain0 HW.out b2)
      clear hu b2 hc
      go_wp2_with fail
      go_roundw
      case rel => exact ⟨k + 1, by omega, by go_num, HU, HW⟩
      case measure => simp [intOf]; omega
    · obtain rfl : k = n := by omega
      have HE := Lib.hid (show (imgs m l).take k = imgs m l by rw [← HN.out, ← imgs_len m l, List.take_length])
      go_wp2_with fail
      go_ret
      exact ⟨_, rfl, by rw [HE.out] at HO; exact HO.out, HB.out.trans (HW.out.mono HB.out.size)⟩
end Go.Proofs.Ytngfdfgeoieebaa.maps
