/- FnExactNewGame: for every seed and number of players, valid or not, the law returns true and its arguments read as before. No condition. -/
import Derived.Test.YteccbcbijfcpmaaRows
import Derived.Test.YteccbcbijfcpmaaFr
import Derived.Test.YteccbcbijfcpmaaGNewGame0
namespace Go.Proofs.Yteccbcbijfcpmaa.lawNewGame
open Go.ChangeShapes Go.WideShapes Go.ChangeAt Go.RowKit
open Go.ChangeMaps (open_string shut_string)
open cards deal game
set_option linter.unusedVariables false

set_option maxRecDepth 100000 in
set_option maxHeartbeats 4000000 in
theorem walk (s p : Int) (w : World) (h0 : (Lit.int .i64 s).wf = true) (h1 : (Lit.int .i64 p).wf = true) :
    Calls Try.prog 3 #[.int .i64 s, .int .i64 p] w fun e w' => e = .returned (.bool true) ∧ Below w.heap.size w w' := by
  have HL := Lib.hid (ngR_len s p)
  have HS := Lib.hid (fun w => spec_ng s p w)
  have HI := Lib.hid (fun w => impl_ng s p w)
  obtain ⟨s1, hs1⟩ : ∃ s1, (ngR s p).1.s = s1 := ⟨_, rfl⟩
  obtain ⟨n1, hn1⟩ : ∃ n1, (ngR s p).1.nx = n1 := ⟨_, rfl⟩
  obtain ⟨L, hL⟩ : ∃ L, (ngR s p).1.l = L := ⟨_, rfl⟩
  obtain ⟨SC, hSC⟩ : ∃ SC, (ngR s p).1.sc = SC := ⟨_, rfl⟩
  obtain ⟨WR, hWR⟩ : ∃ WR, (ngR s p).1.wr = WR := ⟨_, rfl⟩
  obtain ⟨ok, hok⟩ : ∃ ok, (ngR s p).2 = ok := ⟨_, rfl⟩
  rw [hL, hSC, hWR] at HL
  rw [hs1, hn1, hL, hSC, hWR, hok] at HS HI
  clear hs1 hn1 hL hSC hWR hok h0 h1
  obtain ⟨m, hm⟩ : ∃ m, L.length = m := ⟨_, rfl⟩
  obtain ⟨ms, hms⟩ : ∃ ms, SC.length = ms := ⟨_, rfl⟩
  obtain ⟨mw, hmw⟩ : ∃ mw, WR.length = mw := ⟨_, rfl⟩
  rw [hm, hms, hmw] at HL
  have HMm := Lib.hid hm
  have HMs := Lib.hid hms
  have HMw := Lib.hid hmw
  obtain ⟨q1, q2, q3⟩ := HL.out
  clear hm hms hmw HL
  go_enter Try.func3, Try.ntmps3
  go_wp2_with fail
  refine ((HS.out _)).mono ?_
  rintro e w1 ⟨vla, vsa, vwa, rfl, oa, b⟩
  obtain ⟨pa, ca, psa, csa, pwa, cwa, rfl, rfl, rfl, ra, _⟩ := oa.form
  rw [HMm.out, HMs.out, HMw.out] at oa ⊢
  have Sw1 : Hid (w.heap.size ≤ w1.heap.size) := Lib.hid (by first | exact b.size | (have h := b.size; simp at h; omega))
  have HB := Lib.hid (chain0 (w := w) (by repeat (first | with_reducible exact Below.refl _ _ | with_reducible exact HB.out | with_reducible apply Below.drew | with_reducible apply bdN | with_reducible refine Below.alloc ?_ (by first | exact Nat.le_refl _ | with_reducible exact HB.out.size | omega | (simp; done) | (simp; omega) | (have := HB.out.size; simp at *; omega)) _ | with_reducible refine Below.setCell ?_ (by first | exact Nat.le_refl _ | with_reducible exact HB.out.size | omega | (simp; done) | (simp; omega) | (have := HB.out.size; simp at *; omega)) _)) b)
  have Zw1 := Lib.hid HB.out.size
  have Oa : Hid (OwnG w1 w.heap.size w1.heap.size _ _ _ _ _ _) := Lib.hid (OwnG.base oa (by first | exact Nat.le_refl _ | (simp; done) | (simp; omega)))
  have Ra := Lib.hid ra
  clear b oa ra
  go_upto_region 2 with fail
  have K5 : Hid (GBox (w1.alloc (Gv.obj (⟨27, s1, n1, .slice pa m ca, .slice psa ms csa, .slice pwa mw cwa⟩))) w1.heap.size (⟨27, s1, n1, .slice pa m ca, .slice psa ms csa, .slice pwa mw cwa⟩)) := Lib.hid (GBox.newAt rfl rfl)
  obtain ⟨g5, hg⟩ : ∃ g5, w1.heap.size = g5 := ⟨_, rfl⟩
  have HGg5 := Lib.hid hg
  rw [hg] at K5
  try rw [hg]
  clear hg
  obtain ⟨w1b, ew, b⟩ : ∃ wOPN : World, wOPN = (w1.alloc (Gv.obj (⟨27, s1, n1, .slice pa m ca, .slice psa ms csa, .slice pwa mw cwa⟩))) ∧ Below ((w1.alloc (Gv.obj (⟨27, s1, n1, .slice pa m ca, .slice psa ms csa, .slice pwa mw cwa⟩)))).heap.size ((w1.alloc (Gv.obj (⟨27, s1, n1, .slice pa m ca, .slice psa ms csa, .slice pwa mw cwa⟩)))) wOPN := ⟨_, rfl, Below.refl _ _⟩
  rw [← ew]
  clear ew
  have Sw1b : Hid (w1.heap.size ≤ w1b.heap.size) := Lib.hid (by first | exact b.size | (have h := b.size; simp at h; omega))
  have HB := Lib.hid (chain0 (w := w) (by repeat (first | with_reducible exact Below.refl _ _ | with_reducible exact HB.out | with_reducible apply Below.drew | with_reducible apply bdN | with_reducible refine Below.alloc ?_ (by first | exact Nat.le_refl _ | with_reducible exact HB.out.size | omega | (simp; done) | (simp; omega) | (have := HB.out.size; simp at *; omega)) _ | with_reducible refine Below.setCell ?_ (by first | exact Nat.le_refl _ | with_reducible exact HB.out.size | omega | (simp; done) | (simp; omega) | (have := HB.out.size; simp at *; omega)) _)) b)
  have Oa := Lib.hid (OwnG.below (by repeat (first | with_reducible exact Oa.out | with_reducible apply OwnG.drewN | with_reducible apply OwnG.drew | with_reducible apply OwnG.alloc)) b)
  have Ra := Lib.hid (RdG.below (by repeat (first | with_reducible exact Ra.out | with_reducible apply RdG.drewN | with_reducible apply RdG.drew | with_reducible apply RdG.alloc)) b)
  have K5 : Hid (GBox _ (g5) (⟨27, s1, n1, .slice pa m ca, .slice psa ms csa, .slice pwa mw cwa⟩)) := Lib.hid (GBox.below (by repeat (first | with_reducible exact K5.out | with_reducible apply GBox.drewN | with_reducible apply GBox.drew | (with_reducible refine GBox.newAt ?_ ?_ <;> first | (simp; done) | rfl) | with_reducible apply GBox.alloc)) b)
  try clear k5a k5b k5c k5d k5e k5z
  have k5z := K5.out.lt
  obtain ⟨k5a, k5b, k5c, k5d, k5e⟩ := K5.out.cell
  clear b
  have Gg5 := Lib.hid K5.out.lt
  have Yw2K5 := Lib.hid K5.out.lt
  go_wp2_with fail
  refine ((HI.out _)).mono ?_
  rintro e w2 ⟨vlb, vsb, vwb, rfl, ob, b⟩
  obtain ⟨pb, cb, psb, csb, pwb, cwb, rfl, rfl, rfl, rb, _⟩ := ob.form
  rw [HMm.out, HMs.out, HMw.out] at ob ⊢
  have Sw2 : Hid (w1b.heap.size ≤ w2.heap.size) := Lib.hid (by first | exact b.size | (have h := b.size; simp at h; omega))
  have HB := Lib.hid (chain0 (w := w) (by repeat (first | with_reducible exact Below.refl _ _ | with_reducible exact HB.out | with_reducible apply Below.drew | with_reducible apply bdN | with_reducible refine Below.alloc ?_ (by first | exact Nat.le_refl _ | with_reducible exact HB.out.size | omega | (simp; done) | (simp; omega) | (have := HB.out.size; simp at *; omega)) _ | with_reducible refine Below.setCell ?_ (by first | exact Nat.le_refl _ | with_reducible exact HB.out.size | omega | (simp; done) | (simp; omega) | (have := HB.out.size; simp at *; omega)) _)) b)
  have Zw2 := Lib.hid HB.out.size
  have Oa := Lib.hid (OwnG.below (by repeat (first | with_reducible exact Oa.out | with_reducible apply OwnG.drewN | with_reducible apply OwnG.drew | with_reducible apply OwnG.alloc)) b)
  have Ra := Lib.hid (RdG.below (by repeat (first | with_reducible exact Ra.out | with_reducible apply RdG.drewN | with_reducible apply RdG.drew | with_reducible apply RdG.alloc)) b)
  have K5 : Hid (GBox _ (g5) (⟨27, s1, n1, .slice pa m ca, .slice psa ms csa, .slice pwa mw cwa⟩)) := Lib.hid (GBox.below (by repeat (first | with_reducible exact K5.out | with_reducible apply GBox.drewN | with_reducible apply GBox.drew | (with_reducible refine GBox.newAt ?_ ?_ <;> first | (simp; done) | rfl) | with_reducible apply GBox.alloc)) b)
  try clear k5a k5b k5c k5d k5e k5z
  have k5z := K5.out.lt
  obtain ⟨k5a, k5b, k5c, k5d, k5e⟩ := K5.out.cell
  have Ob : Hid (OwnG w2 w1b.heap.size w2.heap.size _ _ _ _ _ _) := Lib.hid (OwnG.base ob (by first | exact Nat.le_refl _ | (simp; done) | (simp; omega)))
  have Rb := Lib.hid rb
  clear b ob rb
  go_upto_region 3 with fail
  have K7 : Hid (GBox (w2.alloc (Gv.obj (⟨27, s1, n1, .slice pb m cb, .slice psb ms csb, .slice pwb mw cwb⟩))) w2.heap.size (⟨27, s1, n1, .slice pb m cb, .slice psb ms csb, .slice pwb mw cwb⟩)) := Lib.hid (GBox.newAt rfl rfl)
  obtain ⟨g7, hg⟩ : ∃ g7, w2.heap.size = g7 := ⟨_, rfl⟩
  have HGg7 := Lib.hid hg
  rw [hg] at K7
  try rw [hg]
  clear hg
  obtain ⟨w2b, ew, b⟩ : ∃ wOPN : World, wOPN = (w2.alloc (Gv.obj (⟨27, s1, n1, .slice pb m cb, .slice psb ms csb, .slice pwb mw cwb⟩))) ∧ Below ((w2.alloc (Gv.obj (⟨27, s1, n1, .slice pb m cb, .slice psb ms csb, .slice pwb mw cwb⟩)))).heap.size ((w2.alloc (Gv.obj (⟨27, s1, n1, .slice pb m cb, .slice psb ms csb, .slice pwb mw cwb⟩)))) wOPN := ⟨_, rfl, Below.refl _ _⟩
  rw [← ew]
  clear ew
  have Sw2b : Hid (w2.heap.size ≤ w2b.heap.size) := Lib.hid (by first | exact b.size | (have h := b.size; simp at h; omega))
  have HB := Lib.hid (chain0 (w := w) (by repeat (first | with_reducible exact Below.refl _ _ | with_reducible exact HB.out | with_reducible apply Below.drew | with_reducible apply bdN | with_reducible refine Below.alloc ?_ (by first | exact Nat.le_refl _ | with_reducible exact HB.out.size | omega | (simp; done) | (simp; omega) | (have := HB.out.size; simp at *; omega)) _ | with_reducible refine Below.setCell ?_ (by first | exact Nat.le_refl _ | with_reducible exact HB.out.size | omega | (simp; done) | (simp; omega) | (have := HB.out.size; simp at *; omega)) _)) b)
  have Oa := Lib.hid (OwnG.below (by repeat (first | with_reducible exact Oa.out | with_reducible apply OwnG.drewN | with_reducible apply OwnG.drew | with_reducible apply OwnG.alloc)) b)
  have Ra := Lib.hid (RdG.below (by repeat (first | with_reducible exact Ra.out | with_reducible apply RdG.drewN | with_reducible apply RdG.drew | with_reducible apply RdG.alloc)) b)
  have Ob := Lib.hid (OwnG.below (by repeat (first | with_reducible exact Ob.out | with_reducible apply OwnG.drewN | with_reducible apply OwnG.drew | with_reducible apply OwnG.alloc)) b)
  have Rb := Lib.hid (RdG.below (by repeat (first | with_reducible exact Rb.out | with_reducible apply RdG.drewN | with_reducible apply RdG.drew | with_reducible apply RdG.alloc)) b)
  have K5 : Hid (GBox _ (g5) (⟨27, s1, n1, .slice pa m ca, .slice psa ms csa, .slice pwa mw cwa⟩)) := Lib.hid (GBox.below (by repeat (first | with_reducible exact K5.out | with_reducible apply GBox.drewN | with_reducible apply GBox.drew | (with_reducible refine GBox.newAt ?_ ?_ <;> first | (simp; done) | rfl) | with_reducible apply GBox.alloc)) b)
  have K7 : Hid (GBox _ (g7) (⟨27, s1, n1, .slice pb m cb, .slice psb ms csb, .slice pwb mw cwb⟩)) := Lib.hid (GBox.below (by repeat (first | with_reducible exact K7.out | with_reducible apply GBox.drewN | with_reducible apply GBox.drew | (with_reducible refine GBox.newAt ?_ ?_ <;> first | (simp; done) | rfl) | with_reducible apply GBox.alloc)) b)
  try clear k5a k5b k5c k5d k5e k5z
  have k5z := K5.out.lt
  obtain ⟨k5a, k5b, k5c, k5d, k5e⟩ := K5.out.cell
  try clear k7a k7b k7c k7d k7e k7z
  have k7z := K7.out.lt
  obtain ⟨k7a, k7b, k7c, k7d, k7e⟩ := K7.out.cell
  clear b
  have Gg7 := Lib.hid K7.out.lt
  go_wp2_with fail
  refine ((eq_game s1 n1 L SC WR pb psb pwb pa psa pwa m cb ca ms csb csa mw cwb cwa _ HMm.out HMs.out HMw.out (by omega) (by omega) (by omega) Rb.out Ra.out)).mono ?_
  rintro e w3 ⟨rfl, b⟩
  have Sw3 : Hid (w2b.heap.size ≤ w3.heap.size) := Lib.hid (by first | exact b.size | (have h := b.size; simp at h; omega))
  have HB := Lib.hid (chain0 (w := w) (by repeat (first | with_reducible exact Below.refl _ _ | with_reducible exact HB.out | with_reducible apply Below.drew | with_reducible apply bdN | with_reducible refine Below.alloc ?_ (by first | exact Nat.le_refl _ | with_reducible exact HB.out.size | omega | (simp; done) | (simp; omega) | (have := HB.out.size; simp at *; omega)) _ | with_reducible refine Below.setCell ?_ (by first | exact Nat.le_refl _ | with_reducible exact HB.out.size | omega | (simp; done) | (simp; omega) | (have := HB.out.size; simp at *; omega)) _)) b)
  have Oa := Lib.hid (OwnG.below (by repeat (first | with_reducible exact Oa.out | with_reducible apply OwnG.drewN | with_reducible apply OwnG.drew | with_reducible apply OwnG.alloc)) b)
  have Ra := Lib.hid (RdG.below (by repeat (first | with_reducible exact Ra.out | with_reducible apply RdG.drewN | with_reducible apply RdG.drew | with_reducible apply RdG.alloc)) b)
  have Ob := Lib.hid (OwnG.below (by repeat (first | with_reducible exact Ob.out | with_reducible apply OwnG.drewN | with_reducible apply OwnG.drew | with_reducible apply OwnG.alloc)) b)
  have Rb := Lib.hid (RdG.below (by repeat (first | with_reducible exact Rb.out | with_reducible apply RdG.drewN | with_reducible apply RdG.drew | with_reducible apply RdG.alloc)) b)
  have K5 : Hid (GBox _ (g5) (⟨27, s1, n1, .slice pa m ca, .slice psa ms csa, .slice pwa mw cwa⟩)) := Lib.hid (GBox.below (by repeat (first | with_reducible exact K5.out | with_reducible apply GBox.drewN | with_reducible apply GBox.drew | (with_reducible refine GBox.newAt ?_ ?_ <;> first | (simp; done) | rfl) | with_reducible apply GBox.alloc)) b)
  have K7 : Hid (GBox _ (g7) (⟨27, s1, n1, .slice pb m cb, .slice psb ms csb, .slice pwb mw cwb⟩)) := Lib.hid (GBox.below (by repeat (first | with_reducible exact K7.out | with_reducible apply GBox.drewN | with_reducible apply GBox.drew | (with_reducible refine GBox.newAt ?_ ?_ <;> first | (simp; done) | rfl) | with_reducible apply GBox.alloc)) b)
  try clear k5a k5b k5c k5d k5e k5z
  have k5z := K5.out.lt
  obtain ⟨k5a, k5b, k5c, k5d, k5e⟩ := K5.out.cell
  try clear k7a k7b k7c k7d k7e k7z
  have k7z := K7.out.lt
  obtain ⟨k7a, k7b, k7c, k7d, k7e⟩ := K7.out.cell
  clear b
  go_wp2_with fail
  refine ((mark_game s1 n1 L SC WR (.slice pb m cb) (.slice psb ms csb) (.slice pwb mw cwb) _ _ 1 m ms mw _ HMm.out HMs.out HMw.out (by omega) (by have h0 := Sw1.out; have h1 := Zw1.out; have h2 := HGg5.out; have h3 := Sw1b.out; have h4 := Gg5.out; have h5 := Yw2K5.out; have h6 := Sw2.out; have h7 := Zw2.out; have h8 := HGg7.out; have h9 := Sw2b.out; have h10 := Gg7.out; have h11 := Sw3.out; first | omega | (show _ ≤ w3.heap.size; omega) | (simp at *; omega)) (by have h0 := Sw1.out; have h1 := Zw1.out; have h2 := HGg5.out; have h3 := Sw1b.out; have h4 := Gg5.out; have h5 := Yw2K5.out; have h6 := Sw2.out; have h7 := Zw2.out; have h8 := HGg7.out; have h9 := Sw2b.out; have h10 := Gg7.out; have h11 := Sw3.out; first | omega | (show _ ≤ w3.heap.size; omega) | (simp at *; omega)) Ob.out)).mono ?_
  rintro e w4 ⟨rfl, oM, gM⟩
  have Sw4 : Hid (w3.heap.size ≤ w4.heap.size) := Lib.hid gM.size
  have HB := Lib.hid (game.Below.out HB.out gM HB.out.size (by have h0 := Sw1.out; have h1 := Zw1.out; have h2 := HGg5.out; have h3 := Sw1b.out; have h4 := Gg5.out; have h5 := Yw2K5.out; have h6 := Sw2.out; have h7 := Zw2.out; have h8 := HGg7.out; have h9 := Sw2b.out; have h10 := Gg7.out; have h11 := Sw3.out; first | omega | (simp at *; omega)))
  have Oa := Lib.hid (OwnG.out Oa.out gM (by have h0 := Sw1.out; have h1 := Zw1.out; have h2 := HGg5.out; have h3 := Sw1b.out; have h4 := Gg5.out; have h5 := Yw2K5.out; have h6 := Sw2.out; have h7 := Zw2.out; have h8 := HGg7.out; have h9 := Sw2b.out; have h10 := Gg7.out; have h11 := Sw3.out; first | omega | (simp at *; omega)))
  have Ra := Lib.hid (OwnG.rd Oa.out)
  have Ob := Lib.hid oM
  have K5 : Hid (GBox _ (g5) (⟨27, s1, n1, .slice pa m ca, .slice psa ms csa, .slice pwa mw cwa⟩)) := Lib.hid (GBox.out K5.out gM (by have h0 := Sw1.out; have h1 := Zw1.out; have h2 := HGg5.out; have h3 := Sw1b.out; have h4 := Gg5.out; have h5 := Yw2K5.out; have h6 := Sw2.out; have h7 := Zw2.out; have h8 := HGg7.out; have h9 := Sw2b.out; have h10 := Gg7.out; have h11 := Sw3.out; first | omega | (simp at *; omega)))
  try clear k5a k5b k5c k5d k5e k5z
  have k5z := K5.out.lt
  obtain ⟨k5a, k5b, k5c, k5d, k5e⟩ := K5.out.cell
  have K7 : Hid (GBox _ (g7) (⟨27, s1, n1, .slice pb m cb, .slice psb ms csb, .slice pwb mw cwb⟩)) := Lib.hid (GBox.out K7.out gM (by have h0 := Sw1.out; have h1 := Zw1.out; have h2 := HGg5.out; have h3 := Sw1b.out; have h4 := Gg5.out; have h5 := Yw2K5.out; have h6 := Sw2.out; have h7 := Zw2.out; have h8 := HGg7.out; have h9 := Sw2b.out; have h10 := Gg7.out; have h11 := Sw3.out; first | omega | (simp at *; omega)))
  try clear k7a k7b k7c k7d k7e k7z
  have k7z := K7.out.lt
  obtain ⟨k7a, k7b, k7c, k7d, k7e⟩ := K7.out.cell
  clear oM gM
  go_wp2_with fail
  refine ((held_game s1 n1 (.slice pb m cb) (.slice psb ms csb) (.slice pwb mw cwb) _ _ 1 m ms mw _ (by omega) Ob.out)).mono ?_
  rintro e w5 ⟨rfl, b⟩
  have Sw5 : Hid (w4.heap.size ≤ w5.heap.size) := Lib.hid (by first | exact b.size | (have h := b.size; simp at h; omega))
  have HB := Lib.hid (chain0 (w := w) (by repeat (first | with_reducible exact Below.refl _ _ | with_reducible exact HB.out | with_reducible apply Below.drew | with_reducible apply bdN | with_reducible refine Below.alloc ?_ (by first | exact Nat.le_refl _ | with_reducible exact HB.out.size | omega | (simp; done) | (simp; omega) | (have := HB.out.size; simp at *; omega)) _ | with_reducible refine Below.setCell ?_ (by first | exact Nat.le_refl _ | with_reducible exact HB.out.size | omega | (simp; done) | (simp; omega) | (have := HB.out.size; simp at *; omega)) _)) b)
  have Oa := Lib.hid (OwnG.below (by repeat (first | with_reducible exact Oa.out | with_reducible apply OwnG.drewN | with_reducible apply OwnG.drew | with_reducible apply OwnG.alloc)) b)
  have Ra := Lib.hid (RdG.below (by repeat (first | with_reducible exact Ra.out | with_reducible apply RdG.drewN | with_reducible apply RdG.drew | with_reducible apply RdG.alloc)) b)
  have Ob := Lib.hid (OwnG.below (by repeat (first | with_reducible exact Ob.out | with_reducible apply OwnG.drewN | with_reducible apply OwnG.drew | with_reducible apply OwnG.alloc)) b)
  have K5 : Hid (GBox _ (g5) (⟨27, s1, n1, .slice pa m ca, .slice psa ms csa, .slice pwa mw cwa⟩)) := Lib.hid (GBox.below (by repeat (first | with_reducible exact K5.out | with_reducible apply GBox.drewN | with_reducible apply GBox.drew | (with_reducible refine GBox.newAt ?_ ?_ <;> first | (simp; done) | rfl) | with_reducible apply GBox.alloc)) b)
  have K7 : Hid (GBox _ (g7) (⟨27, s1, n1, .slice pb m cb, .slice psb ms csb, .slice pwb mw cwb⟩)) := Lib.hid (GBox.below (by repeat (first | with_reducible exact K7.out | with_reducible apply GBox.drewN | with_reducible apply GBox.drew | (with_reducible refine GBox.newAt ?_ ?_ <;> first | (simp; done) | rfl) | with_reducible apply GBox.alloc)) b)
  try clear k5a k5b k5c k5d k5e k5z
  have k5z := K5.out.lt
  obtain ⟨k5a, k5b, k5c, k5d, k5e⟩ := K5.out.cell
  try clear k7a k7b k7c k7d k7e k7z
  have k7z := K7.out.lt
  obtain ⟨k7a, k7b, k7c, k7d, k7e⟩ := K7.out.cell
  clear b
  have Yw6K5 := Lib.hid K5.out.lt
  have Yw6K7 := Lib.hid K7.out.lt
  go_wp2_with fail
  refine ((HI.out _)).mono ?_
  rintro e w6 ⟨vlc, vsc, vwc, rfl, oc, b⟩
  obtain ⟨pc, cc, psc, csc, pwc, cwc, rfl, rfl, rfl, rc, _⟩ := oc.form
  rw [HMm.out, HMs.out, HMw.out] at oc ⊢
  have Sw6 : Hid (w5.heap.size ≤ w6.heap.size) := Lib.hid (by first | exact b.size | (have h := b.size; simp at h; omega))
  have HB := Lib.hid (chain0 (w := w) (by repeat (first | with_reducible exact Below.refl _ _ | with_reducible exact HB.out | with_reducible apply Below.drew | with_reducible apply bdN | with_reducible refine Below.alloc ?_ (by first | exact Nat.le_refl _ | with_reducible exact HB.out.size | omega | (simp; done) | (simp; omega) | (have := HB.out.size; simp at *; omega)) _ | with_reducible refine Below.setCell ?_ (by first | exact Nat.le_refl _ | with_reducible exact HB.out.size | omega | (simp; done) | (simp; omega) | (have := HB.out.size; simp at *; omega)) _)) b)
  have Zw6 := Lib.hid HB.out.size
  have Oa := Lib.hid (OwnG.below (by repeat (first | with_reducible exact Oa.out | with_reducible apply OwnG.drewN | with_reducible apply OwnG.drew | with_reducible apply OwnG.alloc)) b)
  have Ra := Lib.hid (RdG.below (by repeat (first | with_reducible exact Ra.out | with_reducible apply RdG.drewN | with_reducible apply RdG.drew | with_reducible apply RdG.alloc)) b)
  have Ob := Lib.hid (OwnG.below (by repeat (first | with_reducible exact Ob.out | with_reducible apply OwnG.drewN | with_reducible apply OwnG.drew | with_reducible apply OwnG.alloc)) b)
  have K5 : Hid (GBox _ (g5) (⟨27, s1, n1, .slice pa m ca, .slice psa ms csa, .slice pwa mw cwa⟩)) := Lib.hid (GBox.below (by repeat (first | with_reducible exact K5.out | with_reducible apply GBox.drewN | with_reducible apply GBox.drew | (with_reducible refine GBox.newAt ?_ ?_ <;> first | (simp; done) | rfl) | with_reducible apply GBox.alloc)) b)
  have K7 : Hid (GBox _ (g7) (⟨27, s1, n1, .slice pb m cb, .slice psb ms csb, .slice pwb mw cwb⟩)) := Lib.hid (GBox.below (by repeat (first | with_reducible exact K7.out | with_reducible apply GBox.drewN | with_reducible apply GBox.drew | (with_reducible refine GBox.newAt ?_ ?_ <;> first | (simp; done) | rfl) | with_reducible apply GBox.alloc)) b)
  try clear k5a k5b k5c k5d k5e k5z
  have k5z := K5.out.lt
  obtain ⟨k5a, k5b, k5c, k5d, k5e⟩ := K5.out.cell
  try clear k7a k7b k7c k7d k7e k7z
  have k7z := K7.out.lt
  obtain ⟨k7a, k7b, k7c, k7d, k7e⟩ := K7.out.cell
  have Oc : Hid (OwnG w6 w5.heap.size w6.heap.size _ _ _ _ _ _) := Lib.hid (OwnG.base oc (by first | exact Nat.le_refl _ | (simp; done) | (simp; omega)))
  have Rc := Lib.hid rc
  clear b oc rc
  go_upto_region 14 with fail
  have K11 : Hid (GBox (w6.alloc (Gv.obj (⟨27, s1, n1, .slice pc m cc, .slice psc ms csc, .slice pwc mw cwc⟩))) w6.heap.size (⟨27, s1, n1, .slice pc m cc, .slice psc ms csc, .slice pwc mw cwc⟩)) := Lib.hid (GBox.newAt rfl rfl)
  obtain ⟨g11, hg⟩ : ∃ g11, w6.heap.size = g11 := ⟨_, rfl⟩
  have HGg11 := Lib.hid hg
  rw [hg] at K11
  try rw [hg]
  clear hg
  obtain ⟨w6b, ew, b⟩ : ∃ wOPN : World, wOPN = (w6.alloc (Gv.obj (⟨27, s1, n1, .slice pc m cc, .slice psc ms csc, .slice pwc mw cwc⟩))) ∧ Below ((w6.alloc (Gv.obj (⟨27, s1, n1, .slice pc m cc, .slice psc ms csc, .slice pwc mw cwc⟩)))).heap.size ((w6.alloc (Gv.obj (⟨27, s1, n1, .slice pc m cc, .slice psc ms csc, .slice pwc mw cwc⟩)))) wOPN := ⟨_, rfl, Below.refl _ _⟩
  rw [← ew]
  clear ew
  have Sw6b : Hid (w6.heap.size ≤ w6b.heap.size) := Lib.hid (by first | exact b.size | (have h := b.size; simp at h; omega))
  have HB := Lib.hid (chain0 (w := w) (by repeat (first | with_reducible exact Below.refl _ _ | with_reducible exact HB.out | with_reducible apply Below.drew | with_reducible apply bdN | with_reducible refine Below.alloc ?_ (by first | exact Nat.le_refl _ | with_reducible exact HB.out.size | omega | (simp; done) | (simp; omega) | (have := HB.out.size; simp at *; omega)) _ | with_reducible refine Below.setCell ?_ (by first | exact Nat.le_refl _ | with_reducible exact HB.out.size | omega | (simp; done) | (simp; omega) | (have := HB.out.size; simp at *; omega)) _)) b)
  have Oa := Lib.hid (OwnG.below (by repeat (first | with_reducible exact Oa.out | with_reducible apply OwnG.drewN | with_reducible apply OwnG.drew | with_reducible apply OwnG.alloc)) b)
  have Ra := Lib.hid (RdG.below (by repeat (first | with_reducible exact Ra.out | with_reducible apply RdG.drewN | with_reducible apply RdG.drew | with_reducible apply RdG.alloc)) b)
  have Ob := Lib.hid (OwnG.below (by repeat (first | with_reducible exact Ob.out | with_reducible apply OwnG.drewN | with_reducible apply OwnG.drew | with_reducible apply OwnG.alloc)) b)
  have Rc := Lib.hid (RdG.below (by repeat (first | with_reducible exact Rc.out | with_reducible apply RdG.drewN | with_reducible apply RdG.drew | with_reducible apply RdG.alloc)) b)
  have K5 : Hid (GBox _ (g5) (⟨27, s1, n1, .slice pa m ca, .slice psa ms csa, .slice pwa mw cwa⟩)) := Lib.hid (GBox.below (by repeat (first | with_reducible exact K5.out | with_reducible apply GBox.drewN | with_reducible apply GBox.drew | (with_reducible refine GBox.newAt ?_ ?_ <;> first | (simp; done) | rfl) | with_reducible apply GBox.alloc)) b)
  have K7 : Hid (GBox _ (g7) (⟨27, s1, n1, .slice pb m cb, .slice psb ms csb, .slice pwb mw cwb⟩)) := Lib.hid (GBox.below (by repeat (first | with_reducible exact K7.out | with_reducible apply GBox.drewN | with_reducible apply GBox.drew | (with_reducible refine GBox.newAt ?_ ?_ <;> first | (simp; done) | rfl) | with_reducible apply GBox.alloc)) b)
  have K11 : Hid (GBox _ (g11) (⟨27, s1, n1, .slice pc m cc, .slice psc ms csc, .slice pwc mw cwc⟩)) := Lib.hid (GBox.below (by repeat (first | with_reducible exact K11.out | with_reducible apply GBox.drewN | with_reducible apply GBox.drew | (with_reducible refine GBox.newAt ?_ ?_ <;> first | (simp; done) | rfl) | with_reducible apply GBox.alloc)) b)
  try clear k5a k5b k5c k5d k5e k5z
  have k5z := K5.out.lt
  obtain ⟨k5a, k5b, k5c, k5d, k5e⟩ := K5.out.cell
  try clear k7a k7b k7c k7d k7e k7z
  have k7z := K7.out.lt
  obtain ⟨k7a, k7b, k7c, k7d, k7e⟩ := K7.out.cell
  try clear k11a k11b k11c k11d k11e k11z
  have k11z := K11.out.lt
  obtain ⟨k11a, k11b, k11c, k11d, k11e⟩ := K11.out.cell
  clear b
  have Gg11 := Lib.hid K11.out.lt
  go_wp2_with fail
  refine ((eq_game s1 n1 L SC WR pc psc pwc pa psa pwa m cc ca ms csc csa mw cwc cwa _ HMm.out HMs.out HMw.out (by omega) (by omega) (by omega) Rc.out Ra.out)).mono ?_
  rintro e w7 ⟨rfl, b⟩
  have Sw7 : Hid (w6b.heap.size ≤ w7.heap.size) := Lib.hid (by first | exact b.size | (have h := b.size; simp at h; omega))
  have HB := Lib.hid (chain0 (w := w) (by repeat (first | with_reducible exact Below.refl _ _ | with_reducible exact HB.out | with_reducible apply Below.drew | with_reducible apply bdN | with_reducible refine Below.alloc ?_ (by first | exact Nat.le_refl _ | with_reducible exact HB.out.size | omega | (simp; done) | (simp; omega) | (have := HB.out.size; simp at *; omega)) _ | with_reducible refine Below.setCell ?_ (by first | exact Nat.le_refl _ | with_reducible exact HB.out.size | omega | (simp; done) | (simp; omega) | (have := HB.out.size; simp at *; omega)) _)) b)
  have Oa := Lib.hid (OwnG.below (by repeat (first | with_reducible exact Oa.out | with_reducible apply OwnG.drewN | with_reducible apply OwnG.drew | with_reducible apply OwnG.alloc)) b)
  have Ra := Lib.hid (RdG.below (by repeat (first | with_reducible exact Ra.out | with_reducible apply RdG.drewN | with_reducible apply RdG.drew | with_reducible apply RdG.alloc)) b)
  have Ob := Lib.hid (OwnG.below (by repeat (first | with_reducible exact Ob.out | with_reducible apply OwnG.drewN | with_reducible apply OwnG.drew | with_reducible apply OwnG.alloc)) b)
  have Rc := Lib.hid (RdG.below (by repeat (first | with_reducible exact Rc.out | with_reducible apply RdG.drewN | with_reducible apply RdG.drew | with_reducible apply RdG.alloc)) b)
  have K5 : Hid (GBox _ (g5) (⟨27, s1, n1, .slice pa m ca, .slice psa ms csa, .slice pwa mw cwa⟩)) := Lib.hid (GBox.below (by repeat (first | with_reducible exact K5.out | with_reducible apply GBox.drewN | with_reducible apply GBox.drew | (with_reducible refine GBox.newAt ?_ ?_ <;> first | (simp; done) | rfl) | with_reducible apply GBox.alloc)) b)
  have K7 : Hid (GBox _ (g7) (⟨27, s1, n1, .slice pb m cb, .slice psb ms csb, .slice pwb mw cwb⟩)) := Lib.hid (GBox.below (by repeat (first | with_reducible exact K7.out | with_reducible apply GBox.drewN | with_reducible apply GBox.drew | (with_reducible refine GBox.newAt ?_ ?_ <;> first | (simp; done) | rfl) | with_reducible apply GBox.alloc)) b)
  have K11 : Hid (GBox _ (g11) (⟨27, s1, n1, .slice pc m cc, .slice psc ms csc, .slice pwc mw cwc⟩)) := Lib.hid (GBox.below (by repeat (first | with_reducible exact K11.out | with_reducible apply GBox.drewN | with_reducible apply GBox.drew | (with_reducible refine GBox.newAt ?_ ?_ <;> first | (simp; done) | rfl) | with_reducible apply GBox.alloc)) b)
  try clear k5a k5b k5c k5d k5e k5z
  have k5z := K5.out.lt
  obtain ⟨k5a, k5b, k5c, k5d, k5e⟩ := K5.out.cell
  try clear k7a k7b k7c k7d k7e k7z
  have k7z := K7.out.lt
  obtain ⟨k7a, k7b, k7c, k7d, k7e⟩ := K7.out.cell
  try clear k11a k11b k11c k11d k11e k11z
  have k11z := K11.out.lt
  obtain ⟨k11a, k11b, k11c, k11d, k11e⟩ := K11.out.cell
  clear b
  go_wp2_with fail
  refine ((held_game s1 n1 (.slice pb m cb) (.slice psb ms csb) (.slice pwb mw cwb) _ _ 1 m ms mw _ (by omega) Ob.out)).mono ?_
  rintro e w8 ⟨rfl, b⟩
  have Sw8 : Hid (w7.heap.size ≤ w8.heap.size) := Lib.hid (by first | exact b.size | (have h := b.size; simp at h; omega))
  have HB := Lib.hid (chain0 (w := w) (by repeat (first | with_reducible exact Below.refl _ _ | with_reducible exact HB.out | with_reducible apply Below.drew | with_reducible apply bdN | with_reducible refine Below.alloc ?_ (by first | exact Nat.le_refl _ | with_reducible exact HB.out.size | omega | (simp; done) | (simp; omega) | (have := HB.out.size; simp at *; omega)) _ | with_reducible refine Below.setCell ?_ (by first | exact Nat.le_refl _ | with_reducible exact HB.out.size | omega | (simp; done) | (simp; omega) | (have := HB.out.size; simp at *; omega)) _)) b)
  have Oa := Lib.hid (OwnG.below (by repeat (first | with_reducible exact Oa.out | with_reducible apply OwnG.drewN | with_reducible apply OwnG.drew | with_reducible apply OwnG.alloc)) b)
  have Ra := Lib.hid (RdG.below (by repeat (first | with_reducible exact Ra.out | with_reducible apply RdG.drewN | with_reducible apply RdG.drew | with_reducible apply RdG.alloc)) b)
  have Ob := Lib.hid (OwnG.below (by repeat (first | with_reducible exact Ob.out | with_reducible apply OwnG.drewN | with_reducible apply OwnG.drew | with_reducible apply OwnG.alloc)) b)
  have Rc := Lib.hid (RdG.below (by repeat (first | with_reducible exact Rc.out | with_reducible apply RdG.drewN | with_reducible apply RdG.drew | with_reducible apply RdG.alloc)) b)
  have K5 : Hid (GBox _ (g5) (⟨27, s1, n1, .slice pa m ca, .slice psa ms csa, .slice pwa mw cwa⟩)) := Lib.hid (GBox.below (by repeat (first | with_reducible exact K5.out | with_reducible apply GBox.drewN | with_reducible apply GBox.drew | (with_reducible refine GBox.newAt ?_ ?_ <;> first | (simp; done) | rfl) | with_reducible apply GBox.alloc)) b)
  have K7 : Hid (GBox _ (g7) (⟨27, s1, n1, .slice pb m cb, .slice psb ms csb, .slice pwb mw cwb⟩)) := Lib.hid (GBox.below (by repeat (first | with_reducible exact K7.out | with_reducible apply GBox.drewN | with_reducible apply GBox.drew | (with_reducible refine GBox.newAt ?_ ?_ <;> first | (simp; done) | rfl) | with_reducible apply GBox.alloc)) b)
  have K11 : Hid (GBox _ (g11) (⟨27, s1, n1, .slice pc m cc, .slice psc ms csc, .slice pwc mw cwc⟩)) := Lib.hid (GBox.below (by repeat (first | with_reducible exact K11.out | with_reducible apply GBox.drewN | with_reducible apply GBox.drew | (with_reducible refine GBox.newAt ?_ ?_ <;> first | (simp; done) | rfl) | with_reducible apply GBox.alloc)) b)
  try clear k5a k5b k5c k5d k5e k5z
  have k5z := K5.out.lt
  obtain ⟨k5a, k5b, k5c, k5d, k5e⟩ := K5.out.cell
  try clear k7a k7b k7c k7d k7e k7z
  have k7z := K7.out.lt
  obtain ⟨k7a, k7b, k7c, k7d, k7e⟩ := K7.out.cell
  try clear k11a k11b k11c k11d k11e k11z
  have k11z := K11.out.lt
  obtain ⟨k11a, k11b, k11c, k11d, k11e⟩ := K11.out.cell
  clear b
  go_wp2_with fail
  go_ret
  exact ⟨rfl, by repeat (first | with_reducible exact Below.refl _ _ | with_reducible exact HB.out | with_reducible apply Below.drew | with_reducible apply bdN | with_reducible refine Below.alloc ?_ (by first | exact Nat.le_refl _ | with_reducible exact HB.out.size | omega | (simp; done) | (simp; omega) | (have := HB.out.size; simp at *; omega)) _ | with_reducible refine Below.setCell ?_ (by first | exact Nat.le_refl _ | with_reducible exact HB.out.size | omega | (simp; done) | (simp; omega) | (have := HB.out.size; simp at *; omega)) _)⟩

theorem own : ownKnob Try.prog.godebug = none := by kernel_rfl
theorem laidOut : laidOutB Try.prog = true := by kernel_rfl
set_option maxRecDepth 100000 in
set_option maxHeartbeats 1000000 in
theorem lifted (os : Os) (started : os.Started) (H : Type) (enc : TypeId × Value → H) :
    ReturnsInHanded {} Try.checked os 3 .any (Rows.fnExactNewGameSpec.pre6 enc Try.prog Try.f3 Rows.fnExactNewGameRow.domain false) (Rows.fnExactNewGameSpec.post enc Try.prog Try.f3 false true false false) := by
  refine returnsInHanded_of_change (C := Try.checked) own started (by kernel_rfl) Try.func3
    (ChangeSpec.witness6 (enc := enc) (C := Try.checked) false ⟨#[], #[.int .i64 0, .int .i64 0], []⟩ 8 (by kernel_rfl) (by kernel_rfl) (by kernel_rfl) (by kernel_rfl)) ?_
  intro W base args ds gs before hval0 hW hcnd _
  have hval : ∀ (j : Nat) t v, Try.f3.params[j]? = some t → args[j]? = some v → Value.okWide Try.prog W .any base t v := hval0
  have hW' := hW
  obtain ⟨p, q, hA0, hV, rfl, hfz, hnd⟩ := hW
  have hA : DataW.TrodAll enc Try.prog W 0 (fun _ => true) true Try.f3.params.toList args.toList ds p := hA0
  rw [Try.params3] at hA hval
  have hR := fun (W' : World) (hb : Below W.heap.size W W') => frame.still_all laidOut hb _ _ _ _ (by decide +kernel) hA
  obtain ⟨v0, vs0, d0, ds0, p0, q0, hargs, rfl, hp, h0, r0⟩ := trodAll_cons hA
  obtain ⟨v1, vs1, d1, ds1, p1, q1, rfl, rfl, hp1, h1, r1⟩ := trodAll_cons r0
  obtain ⟨rfl, rfl, hpn⟩ := trodAll_nil r1
  obtain rfl : args = #[v0, v1] := by cases args; simp_all
  obtain ⟨rfl, rfl⟩ := trodVars_none hV
  obtain ⟨a0, rfl, rfl, -, w0⟩ := open_int Try.underlying3 (hval 0 3 v0 rfl rfl) h0
  obtain ⟨a1, rfl, rfl, -, w1⟩ := open_int Try.underlying3 (hval 1 3 v1 rfl rfl) h1
  clear hA0 hval0
  simp only [List.append_nil] at hW'
  refine (walk a0 a1 W w0 w1).mono fun e W' ⟨he, hw⟩ => ?_
  subst he
  exact ⟨_, rfl, _, _, _, [], p, [], hW', trodAll_mk1 (shut_bool Try.underlying4 _), hR W' hw, rfl, hw.frame _, fun h => by cases h⟩

theorem over : Rows.fnExactNewGameRow.holds Try.pinned (OpenSpec.ofChange Rows.fnExactNewGameSpec) :=
  OpenClaim.holds_of_wide 3 Try.f3 rfl rfl rfl rfl rfl rfl rfl ⟨rfl, rfl, rfl, rfl, rfl⟩ rfl rfl rfl rfl rfl (by kernel_rfl) Try.func3 (by kernel_rfl)
    (of_decide_eq_true (by kernel_rfl)) (by unfold Func.isWrapper; first | (rw [if_pos (by decide +kernel)]; kernel_rfl) | (rw [if_neg (by decide +kernel)]; exact ⟨rfl, rfl⟩))
    (fun os started H enc _ => lifted os started H enc)

theorem proved : Rows.FnExactNewGameSaid := over
end Go.Proofs.Yteccbcbijfcpmaa.lawNewGame