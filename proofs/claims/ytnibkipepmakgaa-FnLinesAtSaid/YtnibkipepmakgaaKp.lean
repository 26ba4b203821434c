/- Draws: a hand. -/
import Derived.Test.YtnibkipepmakgaaKe
import Derived.Test.YtnibkipepmakgaaPu
import Derived.Test.YtnibkipepmakgaaPm
namespace Go.Proofs.Ytnibkipepmakgaa.draw
open Go.RowKit
open cards
set_option linter.unusedVariables false

theorem put_length (l : List Cd) (c : Cd) : (put l c).length ≤ l.length + 1 := by
  unfold put
  split
  · omega
  · simp only [List.length_append, List.length_take, List.length_drop, List.length_cons, List.length_nil]; omega
theorem ok_put1 {x : Cd} (h : x.ok = true) (k : Nat) : (putAt x 1 k).ok = true := by
  obtain ⟨⟨x1, x2⟩, ⟨x3, x4⟩, ⟨x5, x6⟩, x7, x8⟩ := Cd.bd h
  unfold putAt
  split
  · exact Cd.mk_ok (by simp only; omega)
  · exact Cd.mk_ok (by simp only; omega)
  · exact Cd.mk_ok (by simp only; omega)
  · exact Cd.mk_ok (by simp only; omega)
theorem OwnN.by_ {w w1 : World} {B g : Nat} {v : Value} {L : List Cd} (h : OwnN w B v L) (hG : w.grownBy w1 (some g)) (hg : g < B) : OwnN w1 B v L :=
  ⟨World.ownsRow.kept h.1 hG (by
    cases hv : v.ownBlock with
    | none => exact .inl rfl
    | some b => exact .inr (fun e => by have := (World.ownsRow.lt h.1 b hv).1; injection e with e; omega)), h.2⟩
theorem OwnN.off {w w1 : World} {B g : Nat} {v : Value} {L : List Cd} (h : OwnN w B v L) (hG : w.grownBy w1 (some g)) (hn : ∀ b, v.ownBlock = some b → b ≠ g) : OwnN w1 B v L :=
  ⟨World.ownsRow.kept h.1 hG (by
    cases hv : v.ownBlock with
    | none => exact .inl rfl
    | some b => exact .inr (fun e => hn b hv (by simpa using e))), h.2⟩
theorem OwnN.of_pos {w : World} {B : Nat} {v : Value} {l : List Cd} (h : Own w B v l) (hp : 0 < l.length) : OwnN w B v l := ⟨h, fun e => by
  obtain ⟨p, c, hv, _⟩ := h.form
  rw [hv] at e
  injection e with _ e _
  omega⟩
theorem Cur.under {w w1 : World} {g B : Nat} {p : Option Addr} {n c : Nat} {l : List Int} {N : Nat} (h : Cur w g p n c l N) (b : Below B w w1) (hg : g < B) (hf : Far p n B) : Cur w1 g p n c l N := by
  obtain ⟨a, s, hb, h0, h1, hr, hl, hy, hd⟩ := h
  refine ⟨a, s, (b.block g hg).trans hb, h0, h1, fun hp => ?_, hl, hy, hd⟩
  obtain ⟨b', o, e, hlt, hc⟩ := hr hp
  have hB := hf (by simp at hp; omega) _ e
  refine ⟨b', o, e, Nat.lt_of_lt_of_le hlt b.size, fun j v hv => ?_⟩
  exact (b.cell (p := ⟨b', o + j, none⟩) hB).trans (hc j v hv)
theorem grown_under {w w1 w2 : World} {g : Nat} (h : w.grownBy w1 (some g)) (b : Below w.heap.size w1 w2) : w.grownBy w2 (some g) :=
  ⟨b.os.trans h.os, b.tape.trans h.tape, b.output.trans h.output, Nat.le_trans h.size b.size, fun i hi hr => (b.block i hi).trans (h.block i hi hr)⟩
theorem grown_setR (w : World) (g o : Nat) (x : Cd) : w.grownBy ((((w.setCell ⟨g, o, none⟩ (.int .i64 x.a)).setCell ⟨g, o + 1, none⟩ (.int .i64 x.b)).setCell ⟨g, o + 2, none⟩ (.int .i64 x.c)).setCell ⟨g, o + 3, none⟩ (.int .i64 x.d)) (some g) :=
  (((grown_set w g o _).trans (grown_set _ g (o + 1) _)).trans (grown_set _ g (o + 2) _)).trans (grown_set _ g (o + 3) _)
theorem own_frozen {w : World} {B g q ch : Nat} {L : List Cd} (h : Own w B (.slice (some ⟨g, 0, none⟩) q ch) L) : ∀ k, w.frozen? ⟨g, k, none⟩ = false := by
  obtain ⟨p, c, e, _, _⟩ := h.form
  injection e with _ e _
  subst e
  exact fun k => World.ownsRow.frozenAt h k
theorem flat_put (a : Int) : ∀ (L : List Cd) (i j : Nat) (x : Cd), L[i]? = some x → j < 4 → flat (L.set i (putAt x a j)) = (flat L).set (i * 4 + j) (.int .i64 a)
  | [], i, j, x, h, _ => by simp at h
  | y :: r, 0, j, x, h, hj => by
    obtain rfl : y = x := by simpa using h
    rcases (show j = 0 ∨ j = 1 ∨ j = 2 ∨ j = 3 by omega) with rfl | rfl | rfl | rfl <;> rfl
  | y :: r, i + 1, j, x, h, hj => by
    show y.cells ++ flat (r.set i _) = (y.cells ++ flat r).set ((i + 1) * 4 + j) _
    rw [flat_put a r i j x (by simpa using h) hj, show (i + 1) * 4 + j = (i * 4 + j) + 4 by omega]
    rfl
theorem Own.put_ {w : World} {B g q ch : Nat} {L : List Cd} (h : Own w B (.slice (some ⟨g, 0, none⟩) q ch) L) {i j : Nat} {x : Cd} (hx : L[i]? = some x) (hj : j < 4) (a : Int) : Own (w.setCell ⟨g, i * 4 + j, none⟩ (.int .i64 a)) B (.slice (some ⟨g, 0, none⟩) q ch) (L.set i (putAt x a j)) := by
  obtain ⟨p, c, e, _, _⟩ := h.form
  injection e with _ e _
  subst e
  unfold Own at h ⊢
  rw [List.length_set, flat_put a L i j x hx hj]
  exact (World.ownsRow.stored h (i * 4 + j) (.int .i64 a)).1
theorem own_some {w : World} {B g q ch : Nat} {L : List Cd} (h : Own w B (.slice (some ⟨g, 0, none⟩) q ch) L) {i j : Nat} {x : Cd} (hx : L[i]? = some x) (hj : j < 4) : ∃ v : Int, w.cell? ⟨g, i * 4 + j, none⟩ = some (.int .i64 v) := by
  obtain ⟨c0, c1, c2, c3⟩ := (Own.rd h).at_ hx
  rw [Nat.zero_add] at c0 c1 c2 c3
  rcases (show j = 0 ∨ j = 1 ∨ j = 2 ∨ j = 3 by omega) with rfl | rfl | rfl | rfl
  · exact ⟨_, c0⟩
  · exact ⟨_, c1⟩
  · exact ⟨_, c2⟩
  · exact ⟨_, c3⟩
theorem wf_two {s : Int} (h : s ∈ ([-1, 3] : List Int)) : (Lit.int .i64 s).wf = true := WalkArith.wf_i64 (by simp at h; omega)
theorem wf_all {L : List Cd} (h : L.all Cd.ok = true) : ∀ x ∈ L, wf4 x := fun x hx => wf4_ok (List.all_eq_true.1 h x hx)
theorem wf_setL {L : List Cd} (h : ∀ x ∈ L, wf4 x) {y : Cd} (hy : wf4 y) (i : Nat) : ∀ x ∈ L.set i y, wf4 x := fun x hx => by
  rcases List.mem_or_eq_of_mem_set hx with h1 | h1
  · exact h x h1
  · subst h1; exact hy
theorem Box.some_ {w : World} {g : Nat} {x : Cd} (h : Box w g x) {k : Nat} (hk : k < 4) : ∃ v : Int, w.cell? ⟨g, k, none⟩ = some (.int .i64 v) := by
  obtain ⟨c0, c1, c2, c3⟩ := h.cell
  rcases (show k = 0 ∨ k = 1 ∨ k = 2 ∨ k = 3 by omega) with rfl | rfl | rfl | rfl
  · exact ⟨_, c0⟩
  · exact ⟨_, c1⟩
  · exact ⟨_, c2⟩
  · exact ⟨_, c3⟩

set_option maxRecDepth 100000 in
set_option maxHeartbeats 8000000 in
theorem hand_ (g : Nat) (p : Option Addr) (n c : Nat) (l : List Int) (N : Nat) (w : World) (hN : N ≤ 700000) (hm : n ≤ 1000000000) (h : Cur w g p n c l N) :
    Calls Try.prog 35 #[.pointer (some ⟨g, 0, none⟩)] w fun e w' => ∃ (u : Value) (L : List Cd), e = .returned u ∧ OwnN w' w.heap.size u L ∧ L.length ≤ 29 ∧ (∀ x ∈ L, wf4 x) ∧ Cur w' g p n c l (N + 200) ∧ w.grownBy w' (some g) := by
  have HF := Lib.hid h.far
  have HL := Lib.hid h.lt
  have HC : Hid (Cur ((w.alloc (.cells #[] 54)).alloc (.cells #[.int .i64 4, .int .i64 3, .int .i64 4, .int .i64 2] 3)) g p n c l N) := Lib.hid ((h.alloc _).alloc _)
  have HG : Hid (w.grownBy ((w.alloc (.cells #[] 54)).alloc (.cells #[.int .i64 4, .int .i64 3, .int .i64 4, .int .i64 2] 3)) (some g)) := Lib.hid ((World.grownBy_alloc w _ (some g)).trans (World.grownBy_alloc _ _ (some g)))
  have HO : Hid (OwnN ((w.alloc (.cells #[] 54)).alloc (.cells #[.int .i64 4, .int .i64 3, .int .i64 4, .int .i64 2] 3)) w.heap.size (.slice (some ⟨w.heap.size, 0, none⟩) 0 0) []) := Lib.hid ((OwnN.empty w w.heap.size (Nat.le_refl _)).alloc _)
  have HR : Hid (Rd ((w.alloc (.cells #[] 54)).alloc (.cells #[.int .i64 4, .int .i64 3, .int .i64 4, .int .i64 2] 3)) (some ⟨w.heap.size + 1, 0, none⟩) (nums [4, 3, 4, 2])) := Lib.hid (Rd.newAt (by simp) rfl)
  have HNe : Hid (w.heap.size + 1 ≠ g) := Lib.hid (by have := HL.out; omega)
  clear h
  go_enter Try.func35, Try.ntmps35
  go_wp2_with fail
  refine (among_ [4, 3, 4, 2] g (w.heap.size + 1) 4 4 p n c l N _ (by omega) hm (by omega) (by omega) rfl HR.out HNe.out HC.out).mono ?_
  rintro e w1 ⟨a, rfl, ha, C, G⟩
  have HC := Lib.hid C
  have HG := Lib.hid (HG.out.trans G)
  have HO := Lib.hid (OwnN.by_ HO.out G HL.out)
  have ha2 : a = 4 ∨ a = 3 ∨ a = 2 := by simp at ha; omega
  obtain ⟨t, rfl⟩ : ∃ t : Nat, a = t := ⟨a.toNat, by omega⟩
  have ht1 : 2 ≤ t := by omega
  have ht2 : t ≤ 4 := by omega
  clear C G ha ha2 HR HNe
  have HR : Hid (Rd (w1.alloc (.cells #[.int .i64 6, .int .i64 9, .int .i64 4, .int .i64 12, .int .i64 3, .int .i64 2, .int .i64 1, .int .i64 0, .int .i64 20, .int .i64 26, .int .i64 27, .int .i64 28] 3)) (some ⟨w1.heap.size, 0, none⟩) (nums [6, 9, 4, 12, 3, 2, 1, 0, 20, 26, 27, 28])) := Lib.hid (Rd.newAt rfl rfl)
  have HNe : Hid (w1.heap.size ≠ g) := Lib.hid (Nat.ne_of_gt HC.out.lt)
  have HC := Lib.hid (HC.out.alloc (.cells #[.int .i64 6, .int .i64 9, .int .i64 4, .int .i64 12, .int .i64 3, .int .i64 2, .int .i64 1, .int .i64 0, .int .i64 20, .int .i64 26, .int .i64 27, .int .i64 28] 3))
  have HG := Lib.hid (HG.out.trans (World.grownBy_alloc _ (.cells #[.int .i64 6, .int .i64 9, .int .i64 4, .int .i64 12, .int .i64 3, .int .i64 2, .int .i64 1, .int .i64 0, .int .i64 20, .int .i64 26, .int .i64 27, .int .i64 28] 3) (some g)))
  have HO := Lib.hid (HO.out.alloc (.cells #[.int .i64 6, .int .i64 9, .int .i64 4, .int .i64 12, .int .i64 3, .int .i64 2, .int .i64 1, .int .i64 0, .int .i64 20, .int .i64 26, .int .i64 27, .int .i64 28] 3))
  go_wp2_with fail
  refine (among_ [6, 9, 4, 12, 3, 2, 1, 0, 20, 26, 27, 28] g w1.heap.size 12 12 p n c l (N + 2) _ (by omega) hm (by omega) (by omega) rfl HR.out HNe.out HC.out).mono ?_
  rintro e w2 ⟨a, rfl, ha, C, G⟩
  have HC := Lib.hid C
  have HG := Lib.hid (HG.out.trans G)
  have HO := Lib.hid (OwnN.by_ HO.out G HL.out)
  have ha2 : 0 ≤ a ∧ a ≤ 28 := by simp at ha; omega
  obtain ⟨r0, rfl⟩ : ∃ t : Nat, a = t := ⟨a.toNat, by omega⟩
  have HI : Hid (([] : List Cd).length + r0 ≤ 28 ∧ N + 2 + 2 + 2 * r0 ≤ N + 60) := Lib.hid ⟨by simp; omega, by omega⟩
  have HS : Hid (([] : List Cd).all Cd.ok = true ∧ sorted []) := Lib.hid ⟨rfl, List.Pairwise.nil⟩
  clear C G ha ha2 HR HNe
  go_wp2_with fail
  go_loopw [3, 5, 6, 7] (fun hv rv _ _ wr => ∃ (r M : Nat) (L : List Cd), rv = .int .i64 r ∧ Hid (L.length + r ≤ 28 ∧ M + 2 * r ≤ N + 60) ∧ Hid (L.all Cd.ok = true ∧ sorted L) ∧ Hid (OwnN wr w.heap.size hv L) ∧ Hid (Cur wr g p n c l M) ∧ Hid (w.grownBy wr (some g))) (fun _ rv _ _ _ => (intOf rv).toNat)
  case atStart => exact ⟨r0, _, [], rfl, HI, HS, HO, HC, HG⟩
  case round =>
    clear HI HS HO HC HG
    obtain ⟨r, M, L, rfl, HI, HS, HO, HC, HG⟩ := hrel
    have hM : M ≤ 800000 := by have := HI.out.2; omega
    by_cases hr : 0 < r
    · have hr2 : r ≤ 28 := by have := HI.out.1; omega
      go_wp2_with fail
      refine (pick_ 81 g p n c l M _ (by omega) hm (by omega) (by omega) HC.out).mono ?_
      rintro e w3 ⟨b, rfl, b0, b1, C, G⟩
      have HC := Lib.hid C
      have HG := Lib.hid (HG.out.trans G)
      have HO := Lib.hid (OwnN.by_ HO.out G HL.out)
      clear C G
      go_wp2_with fail
      refine (l2_at b _ b0 (by omega)).mono ?_
      rintro e w4 ⟨rfl, bl⟩
      have HC := Lib.hid (HC.out.below bl)
      have HG := Lib.hid (Lib.grownBy_below HG.out bl)
      have HO := Lib.hid (HO.out.below bl)
      have HX := Lib.hid (cdAt_okC b0 (by omega))
      clear bl
      obtain ⟨x, hx⟩ : ∃ x, cdAt b = x := ⟨_, rfl⟩
      rw [hx] at HX
      simp only [hx]
      clear hx b0 b1
      go_upto_region 6 with fail
      have K6 : Hid (Box (w4.alloc x.obj) w4.heap.size x) := Lib.hid (Box.newAt rfl rfl)
      have HC := Lib.hid (HC.out.alloc x.obj)
      have HNe : Hid (∀ b, (Value.ownBlock _) = some b → b ≠ w4.heap.size) := Lib.hid (fun b hb => Nat.ne_of_lt (World.ownsRow.lt HO.out.1 b hb).2)
      have HO := Lib.hid (HO.out.alloc x.obj)
      have HG6 : Hid (w.heap.size ≤ w4.heap.size) := Lib.hid HG.out.size
      have HG7 : Hid (w4.heap.size ≠ g) := Lib.hid (by have := HG6.out; have := HL.out; omega)
      have HG := Lib.hid (HG.out.trans (World.grownBy_alloc _ x.obj (some g)))
      generalize w4.alloc x.obj = w5 at *
      obtain ⟨g6, hg6⟩ : ∃ g6, w4.heap.size = g6 := ⟨_, rfl⟩
      rw [hg6] at K6 HNe HG6 HG7
      rw [hg6]
      clear hg6
      go_wp2_with fail
      go_loopw [7] (fun iv wr => ∃ (i : Nat) (y : Cd), i ≤ 4 ∧ iv = .int .i64 i ∧ Hid (y.ok = true) ∧ Hid (Box wr g6 y) ∧ Hid (OwnN wr w.heap.size _ L) ∧ Hid (Cur wr g p n c l (M + 2)) ∧ Hid (w.grownBy wr (some g))) (fun iv _ => 4 - (intOf iv).toNat)
      case atStart => exact ⟨t, x, ht2, rfl, HX, K6, HO, HC, HG⟩
      case round =>
        clear K6 HO HC HG HX
        obtain ⟨i, y, hi, rfl, HX, K6, HO, HC, HG⟩ := hrel
        by_cases hi4 : i < 4
        · obtain ⟨v6, c6⟩ := Box.some_ K6.out hi4
          have f6 := K6.out.frozen
          have z6 := K6.out.lt
          have i0 : (0 : Int) ≤ (i : Int) := by omega
          have i1 : (i : Int) < 4 := by omega
          go_wp2_with fail
          go_roundw
          case rel => exact ⟨i + 1, putAt y 1 i, by omega, by go_num, Lib.hid (ok_put1 HX.out i), Lib.hid (Box.put K6.out 1 hi4), Lib.hid (OwnN.off HO.out (grown_set wr g6 i _) HNe.out), Lib.hid (Cur.by2 HC.out (grown_set wr g6 i _) HG7.out (fun h0 q e => by have := HF.out h0 q e; have := HG6.out; omega)), Lib.hid (grown_fresh HG.out (grown_set wr g6 i _) HG6.out)⟩
          case measure => simp [intOf]; omega
        · obtain rfl : i = 4 := by omega
          obtain ⟨gh, ch, hv, hch, hrd⟩ := HO.out.form
          obtain ⟨q, hq⟩ : ∃ q, L.length = q := ⟨_, rfl⟩
          rw [hq] at hv hch
          obtain ⟨k6a, k6b, k6c, k6d⟩ := K6.out.cell
          have k6z := K6.out.lt
          have hq2 : q ≤ 28 := by have := HI.out.1; omega
          have HP := Lib.hid (fun w5 (hr : Rd w5 (some ⟨gh, 0, none⟩) (flat L)) => l2_put L y gh 0 q ch w5 hq (by omega) hch hr HS.out.1 HX.out HS.out.2)
          have HRd := Lib.hid hrd
          have HQ := Lib.hid hq
          rw [hv]
          clear hrd hq hch
          go_wp2_with fail
          refine (HP.out _ HRd.out).mono ?_
          rintro e w6 ⟨u, rfl, hu, bl⟩
          have HO := Lib.hid (hu.base HG.out.size)
          have HC := Lib.hid (HC.out.below bl)
          have HG := Lib.hid (Lib.grownBy_below HG.out bl)
          have HLn := Lib.hid (put_length L y)
          clear hu bl
          have hM2 := HI.out
          go_wp2_with fail
          go_roundw
          case rel => exact ⟨r - 1, M + 2, put L y, by go_num, Lib.hid ⟨by have := HLn.out; have := HQ.out; omega, by omega⟩, Lib.hid ⟨put_ok HS.out.2 HS.out.1 HX.out, put_sorted HS.out.2 HS.out.1 HX.out⟩, HO, HC, HG⟩
          case measure => simp [intOf]; omega
    · obtain rfl : r = 0 := by omega
      obtain ⟨gh, ch, hv, hch, hrd⟩ := HO.out.form
      obtain ⟨q, hq⟩ : ∃ q, L.length = q := ⟨_, rfl⟩
      rw [hq] at hv hch
      have hq2 : q ≤ 28 := by have := HI.out.1; omega
      have hM2 : M ≤ N + 60 := by have := HI.out.2; omega
      subst hv
      have HQ := Lib.hid hq
      have HW := Lib.hid (wf_all HS.out.1)
      have HM2 := Lib.hid hM2
      clear hq hM2 hr HI HS hrd
      by_cases hq0 : 0 < q
      · have hd : decide (0 < q) = true := decide_eq_true hq0
        have hgB : g < w.heap.size := HL.out
        have hghB : w.heap.size ≤ gh := (World.ownsRow.lt HO.out.1 gh rfl).1
        have HGh := Lib.hid hghB
        clear hgB hghB
        go_wp2_with fail
        refine (one_ 24 g p n c l M _ (by omega) hm (by omega) (by omega) HC.out).mono ?_
        rintro e w3 ⟨o, rfl, C, G⟩
        have HC := Lib.hid C
        have HG := Lib.hid (HG.out.trans G)
        have HO := Lib.hid (OwnN.by_ HO.out G HL.out)
        clear C G
        cases o
        · go_wp2_with fail
          go_ret
          exact ⟨_, L, rfl, HO.out, by rw [HQ.out]; omega, HW.out, HC.out.more (by have := HM2.out; omega), HG.out⟩
        · go_wp2_with fail
          refine (pick_ q g p n c l (M + 2) _ (by omega) hm (by omega) (by omega) HC.out).mono ?_
          rintro e w4 ⟨i, rfl, i0, i1, C, G⟩
          have HC := Lib.hid C
          have HG := Lib.hid (HG.out.trans G)
          have HO := Lib.hid (OwnN.by_ HO.out G HL.out)
          clear C G
          obtain ⟨i, rfl⟩ : ∃ j : Nat, i = j := ⟨i.toNat, by omega⟩
          obtain ⟨x, hx⟩ : ∃ x, L[i]? = some x := ⟨_, List.getElem?_eq_getElem (by rw [HQ.out]; omega)⟩
          have HX := Lib.hid hx
          have hiq : i < q := by omega
          clear hx
          go_wp2_with fail
          refine (pick_ 3 g p n c l (M + 2 + 2) _ (by omega) hm (by omega) (by omega) HC.out).mono ?_
          rintro e w5 ⟨b, rfl, b0, b1, C, G⟩
          have HC := Lib.hid C
          have HG := Lib.hid (HG.out.trans G)
          have HO := Lib.hid (OwnN.by_ HO.out G HL.out)
          clear C G
          rcases (show b = 0 ∨ b = 1 ∨ b = 2 by omega) with rfl | rfl | rfl
          · go_upto_region 16 with fail
            have HCd : Hid (Cur w5.drew g p n c l (M + 2 + 2 + 2)) := Lib.hid HC.out.drew
            have HOd : Hid (OwnN w5.drew w.heap.size (.slice (some ⟨gh, 0, none⟩) q ch) L) := Lib.hid HO.out.drew
            have HGd : Hid (w.grownBy w5.drew (some g)) := Lib.hid (Lib.grownBy_below HG.out ((Below.refl _ _).drew))
            have i2 : (0 : Int) ≤ (i : Int) := by omega
            have i3 : (i : Int) < (q : Int) := by omega
            have hM8 : M + 2 + 2 + 2 + 2 ≤ 900000 := by omega
            have HGs : Hid (g < w5.heap.size) := Lib.hid HC.out.lt
            have HRA : Hid (Rd (w5.alloc (.cells #[.int .i64 (-1), .int .i64 3] 3)).drew (some ⟨w5.heap.size, 0, none⟩) (nums [-1, 3])) := Lib.hid (show Rd (w5.alloc (.cells #[.int .i64 (-1), .int .i64 3] 3)) (some ⟨w5.heap.size, 0, none⟩) (nums [-1, 3]) from Rd.newAt rfl rfl)
            have HOA : Hid (OwnN (w5.alloc (.cells #[.int .i64 (-1), .int .i64 3] 3)).drew w.heap.size (.slice (some ⟨gh, 0, none⟩) q ch) L) := Lib.hid (HO.out.alloc (.cells #[.int .i64 (-1), .int .i64 3] 3)).drew
            have HGA : Hid (w.grownBy (w5.alloc (.cells #[.int .i64 (-1), .int .i64 3] 3)).drew (some g)) := Lib.hid (Lib.grownBy_below (HG.out.trans (World.grownBy_alloc _ (.cells #[.int .i64 (-1), .int .i64 3] 3) (some g))) ((Below.refl _ _).drew))
            have HNA : Hid (0 < (nums [-1, 3]).length → ∀ q, (some (⟨w5.heap.size, 0, none⟩ : Addr)) = some q → q.block ≠ g) := Lib.hid (fun _ q e => by cases e; exact Nat.ne_of_gt HGs.out)
            have HNB : Hid (w5.heap.size ≠ g) := Lib.hid (Nat.ne_of_gt HGs.out)
            have HM8 := Lib.hid hM8
            have HN4 : Hid ((1 : Nat) ≤ 2 ∧ (2 : Nat) ≤ 1000000000) := Lib.hid ⟨by omega, by omega⟩
            have HL2 : Hid (([-1, 3] : List Int).length = 2) := Lib.hid rfl
            go_region_with (first
              | (go_at_call 18; refine Calls.mono (pick_ 4 g p n c l (M + 2 + 2 + 2) _ (by omega) hm (by omega) (by omega) ?_) ?_; (repeat (first | with_reducible exact HCd.out | with_reducible exact HC.out | with_reducible apply Cur.drew | with_reducible apply Cur.alloc)); rintro e w6 ⟨j, rfl, j0, j1, C, G⟩; obtain ⟨j, rfl⟩ : ∃ k : Nat, j = k := ⟨j.toNat, by omega⟩; have hj : j < 4 := (by omega); (first
                  | (have HQ6 := Lib.hid (OwnN.by_ HOd.out G HL.out); have HP6 := Lib.hid (HGd.out.trans G); have HR6 := Lib.hid True.intro)
                  | (have HQ6 := Lib.hid (OwnN.by_ HOA.out G HL.out); have HP6 := Lib.hid (HGA.out.trans G); have HR6 := Lib.hid (Rd.grown HRA.out G HNA.out))); have HC6 := Lib.hid C; have HG6 : Hid (w6.heap.size ≠ g) := Lib.hid (Nat.ne_of_gt C.lt); clear C G)
              | (go_at_call 37; first
                  | ((with_reducible refine Calls.mono (among_ [-1, 3] g w5.heap.size 2 2 p n c l (M + 2 + 2 + 2 + 2) _ HM8.out hm HN4.out.1 HN4.out.2 HL2.out HR6.out HNB.out HC6.out) ?_); rintro e w7 ⟨s, rfl, hs, C, G⟩; have HQ7 : Hid (OwnN w7 w.heap.size (.slice (some ⟨gh, 0, none⟩) q ch) L ∧ w.grownBy w7 (some g)) := Lib.hid ⟨OwnN.by_ HQ6.out G HL.out, HP6.out.trans G⟩; have HC7 := Lib.hid C; have HSv : Hid ((Lit.int .i64 s).wf = true) := Lib.hid (wf_two hs); obtain ⟨v7, cv7⟩ := own_some HQ7.out.1.1 HX.out hj; have f7 := own_frozen HQ7.out.1.1; have z7 := (World.ownsRow.lt HQ7.out.1.1 gh rfl).2; clear hs C G)
                  | (have HR7 : Hid (Rd (w6.alloc (.cells #[.int .i64 (-1), .int .i64 3] 3)) (some ⟨w6.heap.size, 0, none⟩) (nums [-1, 3])) := Lib.hid (Rd.newAt rfl rfl); have HC6A := Lib.hid (HC6.out.alloc (.cells #[.int .i64 (-1), .int .i64 3] 3)); (with_reducible refine Calls.mono (among_ [-1, 3] g w6.heap.size 2 2 p n c l (M + 2 + 2 + 2 + 2) _ HM8.out hm HN4.out.1 HN4.out.2 HL2.out HR7.out HG6.out HC6A.out) ?_); rintro e w7 ⟨s, rfl, hs, C, G⟩; have HQ7 : Hid (OwnN w7 w.heap.size (.slice (some ⟨gh, 0, none⟩) q ch) L ∧ w.grownBy w7 (some g)) := Lib.hid ⟨OwnN.by_ (HQ6.out.alloc (.cells #[.int .i64 (-1), .int .i64 3] 3)) G HL.out, (HP6.out.trans (World.grownBy_alloc _ (.cells #[.int .i64 (-1), .int .i64 3] 3) (some g))).trans G⟩; have HC7 := Lib.hid C; have HSv : Hid ((Lit.int .i64 s).wf = true) := Lib.hid (wf_two hs); obtain ⟨v7, cv7⟩ := own_some HQ7.out.1.1 HX.out hj; have f7 := own_frozen HQ7.out.1.1; have z7 := (World.ownsRow.lt HQ7.out.1.1 gh rfl).2; clear hs C G)))
            all_goals
              go_wp2_with fail
              go_ret
              exact ⟨_, L.set i (putAt x s j), rfl, ⟨Own.put_ HQ7.out.1.1 HX.out hj s, HQ7.out.1.2⟩, by rw [List.length_set, HQ.out]; omega, wf_setL HW.out (wf_put (HW.out x (List.mem_of_getElem? HX.out)) HSv.out j) i, (Cur.by2 HC7.out (grown_set w7 gh (i * 4 + j) _) (by have := HGh.out; have := HL.out; omega) (fun h0 q e => by have := HF.out h0 q e; have := HGh.out; omega)).more (by have := HM2.out; omega), grown_fresh HQ7.out.2 (grown_set w7 gh (i * 4 + j) _) HGh.out⟩
          · obtain ⟨c0, c1, c2, c3⟩ := (Own.rd HO.out.1).at_ HX.out
            rw [Nat.zero_add] at c0 c1 c2 c3
            have HB5 := Lib.hid HG.out.size
            go_wp2_with (at_builtin; refine append_cd rfl (.tmp 65) (.tmp 70) rfl w.heap.size _ L x _ _ rfl rfl rfl HO.out.1 (by have := HQ.out; omega) HB5.out ?_; intro v6 w6 hO6 hB6)
            go_ret
            exact ⟨_, L ++ [x], rfl, OwnN.of_pos hO6 (by simp), by simp [HQ.out]; omega, by
              intro z hz
              rcases List.mem_append.1 hz with h1 | h1
              · exact HW.out z h1
              · obtain rfl : z = x := by simpa using h1
                exact HW.out _ (List.mem_of_getElem? HX.out), (Cur.under HC.out hB6 HL.out HF.out).more (by have := HM2.out; omega), grown_under HG.out hB6⟩
          · go_wp2_with fail
            refine (pick_ 81 g p n c l (M + 2 + 2 + 2) _ (by omega) hm (by omega) (by omega) HC.out).mono ?_
            rintro e w6 ⟨b, rfl, b0, b1, C, G⟩
            have HC := Lib.hid C
            have HG := Lib.hid (HG.out.trans G)
            have HO := Lib.hid (OwnN.by_ HO.out G HL.out)
            clear C G
            go_wp2_with fail
            refine (l2_at b _ b0 (by omega)).mono ?_
            rintro e w7 ⟨rfl, bl⟩
            have HC := Lib.hid (HC.out.below bl)
            have HG := Lib.hid (Lib.grownBy_below HG.out bl)
            have HO := Lib.hid (HO.out.below bl)
            have HY := Lib.hid (wf4_ok (cdAt_okC b0 (by omega)))
            clear bl
            obtain ⟨y, hy⟩ : ∃ y, cdAt b = y := ⟨_, rfl⟩
            rw [hy] at HY
            simp only [hy]
            clear hy b0 b1
            obtain ⟨c0, c1, c2, c3⟩ := (Own.rd HO.out.1).at_ HX.out
            rw [Nat.zero_add] at c0 c1 c2 c3
            have f0 : ∀ k, w7.frozen? ⟨gh, k, none⟩ = false := own_frozen HO.out.1
            have z0 : gh < w7.heap.size := (World.ownsRow.lt HO.out.1 gh rfl).2
            go_wp2_with fail
            go_ret
            exact ⟨_, L.set i y, rfl, ⟨Own.store HQ.out HO.out.1 i hiq y, HO.out.2⟩, by rw [List.length_set, HQ.out]; omega, wf_setL HW.out HY.out i, (Cur.by2 HC.out (grown_setR w7 gh (i * 4) y) (by have := HGh.out; have := HL.out; omega) (fun h0 q e => by have := HF.out h0 q e; have := HGh.out; omega)).more (by have := HM2.out; omega), grown_fresh HG.out (grown_setR w7 gh (i * 4) y) HGh.out⟩
      · have hd : decide (0 < q) = false := decide_eq_false hq0
        obtain rfl : q = 0 := by omega
        go_wp2_with fail
        go_ret
        exact ⟨_, L, rfl, HO.out, by rw [HQ.out]; omega, HW.out, HC.out.more (by have := HM2.out; omega), HG.out⟩
end Go.Proofs.Ytnibkipepmakgaa.draw
