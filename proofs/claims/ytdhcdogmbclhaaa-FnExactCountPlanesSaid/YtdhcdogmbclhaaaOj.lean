/- MostInSpace: the program's. -/
import Derived.Test.YtdhcdogmbclhaaaOg
import Derived.Test.YtdhcdogmbclhaaaOe
import Derived.Test.YtdhcdogmbclhaaaOi
import Derived.RegionTactic
namespace Go.Proofs.Ytdhcdogmbclhaaa.planes
open Go.RowKit
open cards reg
set_option linter.unusedVariables false

/-- The greatest number so far, its weight and its value. -/
structure Ms where
  mo : Int
  wt : Cd
  vl : Int
def pk (l : List Cd) (x : Cd) (s : Ms) (v : Nat) : Ms := if s.mo < splitF x l v then ⟨splitF x l v, x, (v : Int)⟩ else s
def pkN (l : List Cd) (x : Cd) (s : Ms) : Nat → Ms
  | 0 => s
  | j + 1 => pk l x (pkN l x s j) j
def mst (l : List Cd) (ws : List Cd) : Ms := ws.foldl (fun s x => pkN l x s 3) ⟨-1, zero, 0⟩
theorem mst_snoc {l ws : List Cd} {k : Nat} {x : Cd} (hx : ws[k]? = some x) : mst l (ws.take (k + 1)) = pkN l x (mst l (ws.take k)) 3 := by
  unfold mst
  rw [take_snoc hx, List.foldl_append]
  rfl
noncomputable def miR (l : List Cd) : Ms × Bool := if handB l = true then (mst l wts, true) else (⟨0, zero, 0⟩, false)
theorem res_mi {fn : Func} {a i b c : Tmp} (hf : fn.results = #[.tmp a, .cell i 33, .tmp b, .tmp c]) {tmps : Array Value} {w : World} {g : Nat} {x : Cd} (ht : tmps.getD i undef = .pointer (some ⟨g, 0, none⟩)) (h : Box w g x) :
    (results fn tmps).run Try.prog w = .ok (.tuple #[tmps.getD a undef, x.val, tmps.getD b undef, tmps.getD c undef]) w := by
  have hl : (loadVar 33 ⟨g, 0, none⟩).run Try.prog w = .ok x.val w := VB.load (cs := #[.int .i64 x.a, .int .i64 x.b, .int .i64 x.c, .int .i64 x.d]) h Try.underlying33 (by kernel_rfl)
  rw [Array.getD_eq_getD_getElem?] at ht
  simp only [results, hf]
  simp [Sem.run_bind, ht, asAddr, hl]
theorem index_q3 {f : Nat → Int} {j : Nat} (hj : j < 3) (w : World) : (Instr.index 46 (.agg (q3 f)) (.int .i64 (j : Int))).run Try.prog w = .ok (.int .i64 (f j)) w := by
  rcases (show j = 0 ∨ j = 1 ∨ j = 2 by omega) with rfl | rfl | rfl <;> kernel_rfl
/-- What lies in memory while the spaces are looked through. -/
structure MiW (w wr : World) (g3 g7 : Nat) (u : Value) (s : Ms) : Prop where
  res : Box wr g3 zero
  box : Box wr g7 s.wt
  own : Own wr (g7 + 1) u wts
  below : Below w.heap.size w wr
  le : w.heap.size ≤ g3
  lt : g3 < g7
theorem MiW.next {w wr w1 : World} {g3 g7 : Nat} {u : Value} {s : Ms} (h : MiW w wr g3 g7 u s) (b : Below wr.heap.size wr w1) : MiW w w1 g3 g7 u s :=
  ⟨h.res.below b, h.box.below b, h.own.below b, h.below.trans (b.mono h.below.size), h.le, h.lt⟩
theorem MiW.alloc {w wr : World} {g3 g7 : Nat} {u : Value} {s : Ms} (h : MiW w wr g3 g7 u s) (o : Obj) : MiW w (wr.alloc o) g3 g7 u s := h.next ((Below.refl _ _).alloc (Nat.le_refl _) o)
theorem MiW.drew {w wr : World} {g3 g7 : Nat} {u : Value} {s : Ms} (h : MiW w wr g3 g7 u s) : MiW w wr.drew g3 g7 u s := ⟨h.res, h.box, h.own, h.below.drew, h.le, h.lt⟩
theorem MiW.drewN {w wr : World} {g3 g7 : Nat} {u : Value} {s : Ms} (h : MiW w wr g3 g7 u s) (k : Nat) : MiW w (wr.drewN k) g3 g7 u s := ⟨h.res, h.box, h.own, bdN h.below k, h.le, h.lt⟩
/-- Another card is kept in the block of the weight. -/
theorem MiW.keep {w wr : World} {g3 g7 : Nat} {u : Value} {s : Ms} (h : MiW w wr g3 g7 u s) (s' : Ms) : MiW w ((((wr.setCell ⟨g7, 0, none⟩ (.int .i64 s'.wt.a)).setCell ⟨g7, 1, none⟩ (.int .i64 s'.wt.b)).setCell ⟨g7, 2, none⟩ (.int .i64 s'.wt.c)).setCell ⟨g7, 3, none⟩ (.int .i64 s'.wt.d)) g3 g7 u s' := by
  have hg : wr.grownBy ((((wr.setCell ⟨g7, 0, none⟩ (.int .i64 s'.wt.a)).setCell ⟨g7, 1, none⟩ (.int .i64 s'.wt.b)).setCell ⟨g7, 2, none⟩ (.int .i64 s'.wt.c)).setCell ⟨g7, 3, none⟩ (.int .i64 s'.wt.d)) (some g7) :=
    World.grownBy.trans (World.grownBy.trans (World.grownBy.trans (grown_setV _ _ _ _) (grown_setV _ _ _ _)) (grown_setV _ _ _ _)) (grown_setV _ _ _ _)
  have hlt := h.lt
  have hle := h.le
  refine ⟨off_box h.res hg (by omega), Box.set_ h.box s'.wt, off_own h.own hg (fun k hk => ?_), h.below.grown hg h.below.size (fun k hk => by injection hk with hk; omega), h.le, h.lt⟩
  have := (h.own.span k hk).1
  omega

set_option maxRecDepth 100000 in
set_option maxHeartbeats 8000000 in
theorem impl_mi (l : List Cd) (p : Option Addr) (n cp : Nat) (w : World) (hn : l.length = n) (hl : n ≤ 1000000000) (hr : Rd w p (flat l)) (hcp : n ≤ cp) :
    Calls Try.prog 44 #[.slice p n cp] w fun e w' => e = .returned (.tuple #[.int .i64 (miR l).1.mo, (miR l).1.wt.val, .int .i64 (miR l).1.vl, .bool (miR l).2]) ∧ Below w.heap.size w w' := by
  have HN := Lib.hid hn
  have HI := Lib.hid (fun w hr => is_hand l p n cp w hn hl hr)
  have K0 : Hid (Box (w.alloc zero.obj) w.heap.size zero) := Lib.hid (Box.newAt rfl rfl)
  have HB : Hid (Below w.heap.size w (w.alloc zero.obj)) := Lib.hid ((Below.refl _ _).alloc (Nat.le_refl _) _)
  have HR0 := Lib.hid hr
  have HR := Lib.hid (Rd.alloc hr zero.obj)
  clear hr hn
  go_enter Try.func44, Try.ntmps44
  go_upto_region 1 with fail
  generalize w.alloc zero.obj = W at *
  cases hh : handB l
  · have HT := Lib.hid (show miR l = (⟨0, zero, 0⟩, false) by unfold miR; rw [if_neg (by simp [hh])])
    rw [hh] at HI
    clear hh
    go_wp2_with fail
    refine ((HI.out _ HR.out)).mono ?_
    rintro e w1 ⟨rfl, b⟩
    have Sw1 := Lib.hid b.size
    have HB := Lib.hid (chain0 (w := w) (by repeat (first | with_reducible exact Below.refl _ _ | with_reducible exact HB.out | with_reducible apply Below.drew | with_reducible apply bdN | with_reducible refine Below.alloc ?_ (by first | exact Nat.le_refl _ | with_reducible exact HB.out.size | omega | (simp; done) | (simp; omega) | (have := HB.out.size; simp at *; omega)) _ | with_reducible refine Below.setCell ?_ (by first | exact Nat.le_refl _ | with_reducible exact HB.out.size | omega | (simp; done) | (simp; omega) | (have := HB.out.size; simp at *; omega)) _)) b)
    have HR := Lib.hid (Rd.below (by repeat (first | with_reducible exact HR.out | with_reducible apply Rd.drewN | with_reducible apply Rd.drew | with_reducible apply Rd.alloc)) b)
    have K0 : Hid (Box _ (w.heap.size) (zero)) := Lib.hid (Box.below (by repeat (first | with_reducible exact K0.out | with_reducible apply Box.drewN | with_reducible apply Box.drew | (with_reducible refine Box.newAt ?_ ?_ <;> first | (simp; done) | rfl) | with_reducible apply Box.alloc)) b)
    try clear k0a k0b k0c k0d k0z
    have k0z := K0.out.lt
    obtain ⟨k0a, k0b, k0c, k0d⟩ := K0.out.cell
    try clear k0f
    have k0f := K0.out.frozen
    clear b
    go_wp2_with fail
    try simp only [Exit.inBlock, Exit.then]
    refine bodyPost_ret (res_mi Try.results44 rfl (Box.set_ K0.out zero)) rfl ?_
    exact ⟨by rw [HT.out]; rfl, by repeat (first | with_reducible exact Below.refl _ _ | with_reducible exact HB.out | with_reducible apply Below.drew | with_reducible apply bdN | with_reducible refine Below.alloc ?_ (by first | exact Nat.le_refl _ | with_reducible exact HB.out.size | omega | (simp; done) | (simp; omega) | (have := HB.out.size; simp at *; omega)) _ | with_reducible refine Below.setCell ?_ (by first | exact Nat.le_refl _ | with_reducible exact HB.out.size | omega | (simp; done) | (simp; omega) | (have := HB.out.size; simp at *; omega)) _)⟩
  · have HT := Lib.hid (show miR l = (mst l wts, true) by unfold miR; rw [if_pos hh])
    have HH := Lib.hid (handB_true.1 hh)
    rw [hh] at HI
    clear hh
    go_wp2_with fail
    refine ((HI.out _ HR.out)).mono ?_
    rintro e w1 ⟨rfl, b⟩
    have Sw1 := Lib.hid b.size
    have HB := Lib.hid (chain0 (w := w) (by repeat (first | with_reducible exact Below.refl _ _ | with_reducible exact HB.out | with_reducible apply Below.drew | with_reducible apply bdN | with_reducible refine Below.alloc ?_ (by first | exact Nat.le_refl _ | with_reducible exact HB.out.size | omega | (simp; done) | (simp; omega) | (have := HB.out.size; simp at *; omega)) _ | with_reducible refine Below.setCell ?_ (by first | exact Nat.le_refl _ | with_reducible exact HB.out.size | omega | (simp; done) | (simp; omega) | (have := HB.out.size; simp at *; omega)) _)) b)
    have HR := Lib.hid (Rd.below (by repeat (first | with_reducible exact HR.out | with_reducible apply Rd.drewN | with_reducible apply Rd.drew | with_reducible apply Rd.alloc)) b)
    have K0 : Hid (Box _ (w.heap.size) (zero)) := Lib.hid (Box.below (by repeat (first | with_reducible exact K0.out | with_reducible apply Box.drewN | with_reducible apply Box.drew | (with_reducible refine Box.newAt ?_ ?_ <;> first | (simp; done) | rfl) | with_reducible apply Box.alloc)) b)
    try clear k0a k0b k0c k0d k0z
    have k0z := K0.out.lt
    obtain ⟨k0a, k0b, k0c, k0d⟩ := K0.out.cell
    try clear k0f
    have k0f := K0.out.frozen
    clear b
    have HB2 := Lib.hid (HB.out.alloc HB.out.size zero.obj)
    have K02 := Lib.hid (K0.out.alloc zero.obj)
    have K7 : Hid (Box (w1.alloc zero.obj) w1.heap.size zero) := Lib.hid (Box.newAt rfl rfl)
    have hlt := K0.out.lt
    go_upto_region 4 with fail
    generalize hg7 : w1.heap.size = g7 at *
    generalize w1.alloc zero.obj = W1 at *
    clear K0 HB HR k0a k0b k0c k0d k0z k0f
    go_wp2_with fail
    refine (all_weights _).mono ?_
    rintro e w2 ⟨u, rfl, hu, b⟩
    have hW1 : g7 < W1.heap.size := K7.out.lt
    have HMi : Hid (MiW w w2 w.heap.size g7 u ⟨-1, zero, 0⟩) := Lib.hid ⟨K02.out.below b, K7.out.below b, (hu.base (by omega)), chain0 HB2.out b, Nat.le_refl _, hlt⟩
    obtain ⟨pu, cu, rfl, _, _, _⟩ := hu.form
    have hle := wts_le
    obtain ⟨q, hq⟩ : ∃ q, wts.length = q := ⟨_, rfl⟩
    have HQ := Lib.hid hq
    rw [hq] at hle HMi ⊢
    clear hu b hq K02 K7 HB2 hW1
    go_wp2_with fail
    go_loopw [6, 8, 20] (fun mv vv iv wr => ∃ (k : Nat) (s : Ms), k ≤ q ∧ iv = .int .i64 k ∧ mv = .int .i64 s.mo ∧ vv = .int .i64 s.vl ∧ Hid (s = mst l (wts.take k)) ∧ Hid (MiW w wr w.heap.size g7 (.slice pu q cu) s)) (fun _ _ iv _ => q - (intOf iv).toNat)
    case atStart => exact ⟨0, ⟨-1, zero, 0⟩, Nat.zero_le _, rfl, rfl, rfl, Lib.hid rfl, HMi⟩
    case round =>
      clear HMi
      obtain ⟨k, s, hk, rfl, rfl, rfl, HS, HM⟩ := hrel
      by_cases hkt : k < q
      · obtain ⟨b, o, x, rfl, hb, hx, c0, c1, c2, c3⟩ := HM.out.own.rd.card (k := k) (by rw [HQ.out]; exact hkt)
        have HX := Lib.hid (wtB_ok (cdsOf_mem.1 (List.mem_of_getElem? hx)).2)
        have HE := Lib.hid (mst_snoc (l := l) hx)
        have m0 : (0 : Int) ≤ (k : Int) := by omega
        have m1 : (k : Int) < (q : Int) := by omega
        clear hx
        have h7 := HM.out.box.lt
        go_upto_region 7 with fail
        have K1 : Hid (Box (wr.alloc x.obj) wr.heap.size x) := Lib.hid (Box.newAt rfl rfl)
        have HM := Lib.hid (HM.out.alloc x.obj)
        obtain ⟨gx, hgx⟩ : ∃ gx, wr.heap.size = gx := ⟨_, rfl⟩
        rw [hgx] at K1 h7
        try rw [hgx]
        clear hgx c0 c1 c2 c3 hb
        generalize wr.alloc x.obj = W2 at *
        obtain ⟨k1a, k1b, k1c, k1d⟩ := K1.out.cell
        have HRx := Lib.hid (HR0.out.below HM.out.below)
        go_wp2_with fail
        refine (split_by l x p n cp _ HN.out (by have := HH.out.1; have := HN.out; omega) HRx.out HH.out.2.1 HX.out).mono ?_
        rintro e w3 ⟨rfl, b⟩
        have HM3 := Lib.hid (HM.out.next b)
        have K13 := Lib.hid (K1.out.below b)
        have hne : gx ≠ g7 := by omega
        clear b HRx k1a k1b k1c k1d K1 HM
        go_wp2_with fail
        go_loopw [6, 8, 27] (fun mv vv jv wq => ∃ (j : Nat) (s' : Ms), j ≤ 3 ∧ jv = .int .i64 j ∧ mv = .int .i64 s'.mo ∧ vv = .int .i64 s'.vl ∧ Hid (s' = pkN l x s j) ∧ Hid (MiW w wq w.heap.size g7 (.slice (some ⟨b, o, none⟩) q cu) s') ∧ Hid (Box wq gx x)) (fun _ _ jv _ => 3 - (intOf jv).toNat)
        case atStart => exact ⟨0, s, Nat.zero_le _, rfl, rfl, rfl, Lib.hid rfl, HM3, K13⟩
        case round =>
          clear HM3 K13
          obtain ⟨j, s', hj, rfl, rfl, rfl, HS2, HM, K1⟩ := hrel
          by_cases hjt : j < 3
          · have n0 : (0 : Int) ≤ (j : Int) := by omega
            have n1 : (j : Int) < 3 := by omega
            have hix := fun w => index_q3 (f := splitF x l) hjt w
            have HP : Hid (pkN l x s (j + 1) = pk l x s' j) := Lib.hid (by rw [HS2.out]; rfl)
            by_cases hgt : s'.mo < splitF x l j
            · have HP2 := Lib.hid (HP.out.trans (by unfold pk; rw [if_pos hgt]))
              obtain ⟨v, hv⟩ : ∃ v, splitF x l j = v := ⟨_, rfl⟩
              rw [hv] at hgt HP2 hix
              have HM2 := Lib.hid (HM.out.keep ⟨v, x, j⟩)
              clear hv HP
              obtain ⟨k1a, k1b, k1c, k1d⟩ := K1.out.cell
              obtain ⟨k7a, k7b, k7c, k7d⟩ := HM.out.box.cell
              have k7f := HM.out.box.frozen
              have k7z := HM.out.box.lt
              go_upto_region 11 with fail
              go_region
              have HM3 := Lib.hid HM2.out.drew
              have K13 : Hid (Box (((((wr.setCell ⟨g7, 0, none⟩ (.int .i64 x.a)).setCell ⟨g7, 1, none⟩ (.int .i64 x.b)).setCell ⟨g7, 2, none⟩ (.int .i64 x.c)).setCell ⟨g7, 3, none⟩ (.int .i64 x.d)).drew) gx x) := Lib.hid ((((K1.out.far hne _).far hne _).far hne _).far hne _)
              clear k1a k1b k1c k1d k7a k7b k7c k7d k7f HM K1 HM2
              dsimp only at HM3
              generalize (((((wr.setCell ⟨g7, 0, none⟩ (.int .i64 x.a)).setCell ⟨g7, 1, none⟩ (.int .i64 x.b)).setCell ⟨g7, 2, none⟩ (.int .i64 x.c)).setCell ⟨g7, 3, none⟩ (.int .i64 x.d)).drew) = w8 at *
              go_wp2_with fail
              go_roundw
              case rel => exact ⟨j + 1, ⟨v, x, j⟩, by omega, by go_num, rfl, rfl, Lib.hid HP2.out.symm, HM3, K13⟩
              case measure => simp [intOf]; omega
            · have HP2 := Lib.hid (HP.out.trans (by unfold pk; rw [if_neg hgt]))
              obtain ⟨v, hv⟩ : ∃ v, splitF x l j = v := ⟨_, rfl⟩
              rw [hv] at hgt hix
              clear hv HP
              go_wp2_with fail
              go_roundw
              case rel => exact ⟨j + 1, s', by omega, by go_num, rfl, rfl, Lib.hid HP2.out.symm, HM, K1⟩
              case measure => simp [intOf]; omega
          · obtain rfl : j = 3 := by omega
            go_wp2_with fail
            go_roundw
            case rel => exact ⟨k + 1, s', by omega, by go_num, rfl, rfl, Lib.hid (by rw [HE.out, ← HS.out]; exact HS2.out), HM⟩
            case measure => simp [intOf]; omega
      · obtain rfl : k = q := by omega
        have hS := HS.out
        rw [show wts.take k = wts by rw [← HQ.out, List.take_length]] at hS
        have HS3 := Lib.hid hS
        obtain ⟨k3a, k3b, k3c, k3d⟩ := HM.out.res.cell
        have k3f := HM.out.res.frozen
        have k3z := HM.out.res.lt
        obtain ⟨k7a, k7b, k7c, k7d⟩ := HM.out.box.cell
        have k7z := HM.out.box.lt
        clear hS
        go_upto_region 14 with fail
        go_region
        have HB := Lib.hid (((((HM.out.below.setCell (p := ⟨w.heap.size, 0, none⟩) (Nat.le_refl _) (.int .i64 s.wt.a)).setCell (p := ⟨w.heap.size, 1, none⟩) (Nat.le_refl _) (.int .i64 s.wt.b)).setCell (p := ⟨w.heap.size, 2, none⟩) (Nat.le_refl _) (.int .i64 s.wt.c)).setCell (p := ⟨w.heap.size, 3, none⟩) (Nat.le_refl _) (.int .i64 s.wt.d)).drew)
        have K3 := Lib.hid (Box.drew (Box.set_ HM.out.res s.wt))
        clear k3a k3b k3c k3d k3f k7a k7b k7c k7d HM
        generalize (((((wr.setCell ⟨w.heap.size, 0, none⟩ (.int .i64 s.wt.a)).setCell ⟨w.heap.size, 1, none⟩ (.int .i64 s.wt.b)).setCell ⟨w.heap.size, 2, none⟩ (.int .i64 s.wt.c)).setCell ⟨w.heap.size, 3, none⟩ (.int .i64 s.wt.d)).drew) = w8 at *
        go_wp2_with fail
        try simp only [Exit.inBlock, Exit.then]
        refine bodyPost_ret (res_mi Try.results44 rfl K3.out) rfl ?_
        exact ⟨by rw [HT.out, ← HS3.out]; rfl, HB.out⟩
end Go.Proofs.Ytdhcdogmbclhaaa.planes
