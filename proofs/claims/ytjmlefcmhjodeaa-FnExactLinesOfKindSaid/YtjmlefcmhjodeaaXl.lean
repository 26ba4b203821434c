/- slices.DeleteFunc on a list of lines, by a closure over two variables. -/
import Derived.Test.YtjmlefcmhjodeaaZj
namespace Go.Proofs.Ytjmlefcmhjodeaa.parting
open Go.RowKit
open cards maps
set_option linter.unusedVariables false

set_option maxRecDepth 100000 in
set_option maxHeartbeats 2000000 in
theorem index_fun3d (f : FuncId) (q1 q2 : Value) (P : A3 → Bool) (l : List A3) (p : Option Addr) (n c : Nat) (w : World) (hn : l.length = n) (hl : n ≤ 1000000000) (hr : Rd w p (A3.flat l))
    (hcf : ∀ (args : Array Value) (w : World), (callFunc f args).run Try.prog w = .ok (.enter f args) w)
    (hC : ∀ (x : A3) (w' : World), x ∈ l → Below w.heap.size w w' → Calls Try.prog f #[x.val, q1, q2] w' fun e w2 => e = .returned (.bool (P x)) ∧ Below w'.heap.size w' w2) :
    Calls Try.prog 93 #[.slice p n c, .func (.func f) #[] #[q1, q2]] w fun e w' => e = .returned (.int .i64 (posP P l)) ∧ Below w.heap.size w w' := by
  have HN := Lib.hid hn
  have HR := Lib.hid hr
  have HC := Lib.hid hC
  clear hn hr hC
  go_enter Try.func93, Try.ntmps93
  go_wp2_with fail
  go_loopw [5, 8] (fun _ i wr => ∃ k : Nat, k ≤ n ∧ i = .int .i64 k ∧ Hid (∀ (j : Nat) y, j < k → l[j]? = some y → P y = false) ∧ Hid (Below w.heap.size w wr)) (fun _ i _ => n - (intOf i).toNat)
  case atStart => exact ⟨0, Nat.zero_le _, rfl, Lib.hid (fun j y h => by omega), Lib.hid (Below.refl _ _)⟩
  case round =>
    obtain ⟨k, hk, rfl, HU, HB⟩ := hrel
    by_cases hlt : k < n
    · obtain ⟨b, o, x, rfl, hb, hx, c0, c1, c2⟩ := (HR.out.below HB.out).aA3 (k := k) (by rw [HN.out]; exact hlt)
      have HX := Lib.hid hx
      clear hx
      have m0 : (0 : Int) ≤ (k : Int) := by omega
      have m1 : (k : Int) < (n : Int) := by omega
      go_wp2_with fail
      refine (HC.out x _ (List.mem_of_getElem? HX.out) HB.out).mono ?_
      rintro e w1 ⟨rfl, b⟩
      have Sw1 := Lib.hid b.size
      have HB := Lib.hid (chain0 (w := w) (by repeat (first | with_reducible exact Below.refl _ _ | with_reducible exact HB.out | with_reducible apply Below.drew | with_reducible apply bdN | with_reducible refine Below.alloc ?_ (by first | exact Nat.le_refl _ | with_reducible exact HB.out.size | omega | (simp; done) | (simp; omega) | (have := HB.out.size; simp at *; omega)) _ | with_reducible refine Below.setCell ?_ (by first | exact Nat.le_refl _ | with_reducible exact HB.out.size | omega | (simp; done) | (simp; omega) | (have := HB.out.size; simp at *; omega)) _)) b)
      clear b
      clear c0 c1 c2
      cases hs : P x
      · have HU1 := Lib.hid (show ∀ (j : Nat) y, j < k + 1 → l[j]? = some y → P y = false from fun j y hj hy => by
          rcases Nat.lt_or_ge j k with h | h
          · exact HU.out j y h hy
          · obtain rfl : j = k := by omega
            have h1 := HX.out; rw [hy] at h1; injection h1 with h1; subst h1; exact hs)
        go_wp2_with fail
        go_roundw
        case rel => exact ⟨k + 1, by omega, by go_num, HU1, HB⟩
        case measure => simp [intOf]; omega
      · have HP := Lib.hid (show (k : Int) = posP P l from posP_at HX.out hs HU.out)
        go_wp2_with fail
        go_ret
        exact ⟨ret_int HP.out, HB.out⟩
    · obtain rfl : k = n := by omega
      have HP := Lib.hid (show -1 = posP P l from posP_none (fun j y hy => HU.out j y (by rw [← HN.out]; exact (List.getElem?_eq_some_iff.1 hy).1) hy))
      go_wp2_with fail
      go_ret
      exact ⟨ret_int HP.out, HB.out⟩
set_option maxRecDepth 100000 in
set_option maxHeartbeats 8000000 in
theorem delete_fun3d (f : FuncId) (q1 q2 : Value) (P : A3 → Bool) (I : World → Prop) (l : List A3) (B : Nat) (v : Value) (w : World) (hl : l.length ≤ 100000000) (ho : OwnA3 w B v l) (hi : I w)
    (hi1 : ∀ a b, I a → Below a.heap.size a b → I b) (hi2 : ∀ a b, I a → a.grownBy b v.ownBlock → I b)
    (hcf : ∀ (args : Array Value) (w : World), (callFunc f args).run Try.prog w = .ok (.enter f args) w)
    (hC : ∀ (x : A3) (w' : World), x ∈ l → I w' → Calls Try.prog f #[x.val, q1, q2] w' fun e w2 => e = .returned (.bool (P x)) ∧ Below w'.heap.size w' w2) :
    Calls Try.prog 64 #[v, .func (.func f) #[] #[q1, q2]] w fun e w' => ∃ u, e = .returned u ∧ OwnA3 w' B u (l.filter (fun x => !P x)) ∧ w.grownBy w' v.ownBlock := by
  obtain ⟨p, c, rfl, hc, hr, hp⟩ := ho.form
  obtain ⟨n, hn⟩ : ∃ n, l.length = n := ⟨_, rfl⟩
  have HX := index_fun3d f q1 q2 P l p n c w hn (by omega) hr hcf (fun x w' hx hb => hC x w' hx (hi1 _ _ hi hb))
  have hbd := posP_bd P l
  obtain ⟨z, hz⟩ : ∃ z, posP P l = z := ⟨_, rfl⟩
  rw [hn] at hl hc hp ho hbd hi2 ⊢
  rw [hz] at HX hbd
  replace HX := Lib.hid HX
  have HZ := Lib.hid hz
  have HN := Lib.hid hn
  have HO := Lib.hid ho
  have HI := Lib.hid hi
  have HI1 := Lib.hid hi1
  have HI2 := Lib.hid hi2
  have HC := Lib.hid hC
  have HP := Lib.hid hp
  have HR := Lib.hid hr
  clear hr hn ho hi hi1 hi2 hC hp hz
  go_enter Try.func64, Try.ntmps64
  go_wp2_with fail
  refine (HX.out).mono ?_
  rintro e w1 ⟨rfl, b1⟩
  have HO1 := Lib.hid (HO.out.below b1)
  have HG1 : Hid (w.grownBy w1 (Value.slice p n c).ownBlock) := Lib.hid (below_grown b1)
  have HI3 := Lib.hid (HI1.out _ _ HI.out b1)
  clear b1
  by_cases hm : z = -1
  · have HF := Lib.hid (posP_no (HZ.out.trans hm))
    have hme : (z == -1) = true := by simp [hm]
    clear hm
    go_wp2_with fail
    go_ret
    exact ⟨_, rfl, by rw [HF.out]; exact HO1.out, HG1.out⟩
  · obtain ⟨k, hk⟩ : ∃ k : Nat, z = (k : Int) := ⟨z.toNat, by omega⟩
    have hme : (z == -1) = false := by simp [hm]
    have HD := Lib.hid (DelI.start (HZ.out.trans hk))
    have hkn : k < n := by have := (posP_some (HZ.out.trans hk)).1; have := HN.out; omega
    clear hm
    subst hk
    obtain ⟨g, rfl, _⟩ := HP.out (by omega)
    have m9 : (k : Int) ≤ 100000000 := by omega
    have m8 : (0 : Int) ≤ (k : Int) := by omega
    go_wp2_with fail
    go_loopw [5, 6, 7] (fun i j _ wr => ∃ (a b : Nat) (R : List A3), a < b ∧ b ≤ n ∧ i = .int .i64 a ∧ j = .int .i64 b ∧ Hid (DelI P l R a b) ∧ Hid (OwnA3 wr B (.slice (some ⟨g, 0, none⟩) n c) R) ∧ Hid (w.grownBy wr (some g)) ∧ Hid (I wr)) (fun _ j _ _ => n - (intOf j).toNat)
    case atStart => exact ⟨k, k + 1, l, by omega, by omega, rfl, by go_num, HD, HO1, HG1, HI3⟩
    case round =>
      clear HD HO1 HG1 HI3 hkn hme m9 m8 hbd
      obtain ⟨a, b, R, hab, hbn, rfl, rfl, HD, HO1, HG1, HI3⟩ := hrel
      have HRl := Lib.hid (HD.out.len.trans HN.out)
      have HGz := Lib.hid HG1.out.size
      by_cases hlt : b < n
      · obtain ⟨y, hy, d0, d1, d2, hf, _, hg⟩ := HO1.out.slots HRl.out b hlt
        obtain ⟨y2, _, e0, e1, e2, _, _, _⟩ := HO1.out.slots HRl.out a (by omega)
        have HY := Lib.hid hy
        clear hy
        have m0 : (0 : Int) ≤ (b : Int) := by omega
        have m1 : (b : Int) < (n : Int) := by omega
        have m2 : (0 : Int) ≤ (a : Int) := by omega
        have m3 : (a : Int) < (n : Int) := by omega
        have m4 : (n : Int) ≤ 100000000 := by omega
        have HW : Hid (Below wr.heap.size wr (wr.alloc (A3.obj y))) := Lib.hid ((Below.refl _ _).alloc (Nat.le_refl _) _)
        have HI4 := Lib.hid (HI1.out _ _ HI3.out HW.out)
        have HT : Hid (TBox (wr.alloc (A3.obj y)) wr.heap.size y) := Lib.hid (TBox.newAt rfl rfl)
        go_wp2_with fail
        refine (HC.out y _ (List.mem_of_getElem? (HD.out.at_ HY.out)) HI4.out).mono ?_
        rintro e w2 ⟨rfl, b2⟩
        have HT2 := Lib.hid (HT.out.below b2)
        have HO2 := Lib.hid ((HO1.out.below HW.out).below b2)
        have HG2 : Hid (w.grownBy w2 (some g)) := Lib.hid ((HG1.out.trans (below_grown HW.out)).trans (below_grown b2))
        have HI5 := Lib.hid (HI1.out _ _ HI4.out b2)
        have HGz2 : Hid (wr.heap.size < w2.heap.size) := Lib.hid (by have := b2.size; simp at this; omega)
        clear b2 HT HW HI4 d0 d1 d2 e0 e1 e2 hf
        obtain ⟨t0, t1, t2, _⟩ := HT2.out.cell
        obtain ⟨y3, _, e0, e1, e2, hf, _, hg2⟩ := HO2.out.slots HRl.out a (by omega)
        cases hs : P y
        · have HD2 := Lib.hid (HD.out.keep hab HY.out hs)
          have HS := Lib.hid (HO2.out.store HRl.out a (by omega) y)
          have HGS : Hid (w.grownBy (((w2.setCell ⟨g, a * 3, none⟩ (.int .i64 y.a)).setCell ⟨g, a * 3 + 1, none⟩ (.int .i64 y.b)).setCell ⟨g, a * 3 + 2, none⟩ (.int .i64 y.c)) (some g)) := Lib.hid (grown_set (grown_set (grown_set HG2.out _ _) _ _) _ _)
          have HIS : Hid (I (((w2.setCell ⟨g, a * 3, none⟩ (.int .i64 y.a)).setCell ⟨g, a * 3 + 1, none⟩ (.int .i64 y.b)).setCell ⟨g, a * 3 + 2, none⟩ (.int .i64 y.c))) := Lib.hid (HI2.out _ _ HI5.out (grown_set (grown_set (grown_set (World.grownBy.refl _ _) _ _) _ _) _ _))
          clear hs
          go_wp2_with fail
          go_roundw
          case rel => exact ⟨a + 1, b + 1, _, by omega, by omega, by go_num, by go_num, HD2, HS, HGS, HIS⟩
          case measure => simp [intOf]; omega
        · have HD2 := Lib.hid (HD.out.skip HY.out hs)
          clear hs
          go_wp2_with fail
          go_roundw
          case rel => exact ⟨a, b + 1, R, by omega, by omega, rfl, by go_num, HD2, HO2, HG2, HI5⟩
          case measure => simp [intOf]; omega
      · obtain rfl : b = n := by omega
        have HFin : Hid (R.take a = l.filter (fun x => !P x)) := Lib.hid (by rw [HD.out.low, ← HN.out, List.take_length])
        have HSh := Lib.hid (OwnA3.shrink HO1.out HRl.out (Nat.le_of_lt hab))
        have HLen : Hid ((l.filter (fun x => !P x)).length = a) := Lib.hid (by rw [← HFin.out, List.length_take, HRl.out]; omega)
        rw [HFin.out] at HSh
        have hclr := fun ty => run_clear3 wr ty g (a * 3) (b - a) (c - a) (by omega) (fun j hj => by
          exact (OwnA3.some_ HRl.out HO1.out).1 _ (by omega)) (fun j hj => (OwnA3.some_ HRl.out HO1.out).2 _)
        have HB2 := Lib.hid (OwnA3.behind HLen.out (List.replicate ((b - a) * 3) (.int .i64 0)) (a * 3) wr (by omega) HSh.out)
        have HG3 := Lib.hid (grown_cells (List.replicate ((b - a) * 3) (.int .i64 0)) (a * 3) wr HG1.out)
        obtain ⟨W, hW⟩ : ∃ W, wr.setCells g (a * 3) (List.replicate ((b - a) * 3) (.int .i64 0)) = W := ⟨_, rfl⟩
        rw [hW] at HB2 HG3 hclr
        have hcc : b ≤ c := by omega
        have hne : ¬ c = a := by omega
        have m0 : (0 : Int) ≤ (a : Int) := by omega
        have m1 : (a : Int) ≤ (b : Int) := by omega
        have m2 : (a : Int) ≤ (c : Int) := by omega
        have m3 : (b : Int) ≤ (c : Int) := by omega
        clear hW
        go_wp2_with fail
        go_ret
        exact ⟨_, rfl, HB2.out, HG3.out⟩
end Go.Proofs.Ytjmlefcmhjodeaa.parting
