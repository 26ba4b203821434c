/- slices.DeleteFunc on a list of lines: the walk. -/
import Derived.Test.YtnibkipepmakgaaZi
namespace Go.Proofs.Ytnibkipepmakgaa.parting
open Go.RowKit
open cards maps
set_option linter.unusedVariables false

theorem posP_some {P : A3 → Bool} {l : List A3} {k : Nat} (h : posP P l = (k : Int)) : k < l.length ∧ (∃ x, l[k]? = some x ∧ P x = true) ∧ ∀ (j : Nat) y, j < k → l[j]? = some y → P y = false := by
  have ha : l.any P = true := by
    rw [← posP_nn, h]; simp
  obtain ⟨x, hx, hp⟩ := List.any_eq_true.1 ha
  have key : ∀ (l : List A3), l.any P = true → ∃ k, (l.takeWhile fun x => !P x).length = k ∧ k < l.length ∧ (∃ x, l[k]? = some x ∧ P x = true) ∧ ∀ (j : Nat) y, j < k → l[j]? = some y → P y = false := by
    intro l
    induction l with
    | nil => intro h; simp at h
    | cons y r ih =>
      intro h
      by_cases hy : P y = true
      · exact ⟨0, by simp [hy], by simp, ⟨y, rfl, hy⟩, fun j z hj => by omega⟩
      · have hy : P y = false := by simpa using hy
        obtain ⟨k, h1, h2, h3, h4⟩ := ih (by simpa [hy] using h)
        refine ⟨k + 1, by simp [hy, h1], by simp; omega, by simpa using h3, fun j z hj hz => ?_⟩
        cases j with
        | zero => obtain rfl : y = z := by simpa using hz
                  exact hy
        | succ j => exact h4 j z (by omega) (by simpa using hz)
  obtain ⟨k', h1, h2⟩ := key l ha
  unfold posP at h
  rw [if_pos ha, h1] at h
  have : k' = k := by omega
  rw [← this]; exact h2
theorem posP_no {P : A3 → Bool} {l : List A3} (h : posP P l = -1) : l.filter (fun x => !P x) = l := by
  rw [List.filter_eq_self]
  intro x hx
  cases hp : P x
  · rfl
  · have ha : l.any P = true := List.any_eq_true.2 ⟨x, hx, hp⟩
    unfold posP at h
    rw [if_pos ha] at h
    omega
/-- The row when a lines are kept of the first b. -/
structure DelI (P : A3 → Bool) (l R : List A3) (a b : Nat) : Prop where
  len : R.length = l.length
  low : R.take a = (l.take b).filter (fun x => !P x)
  high : R.drop b = l.drop b
theorem DelI.start {P : A3 → Bool} {l : List A3} {k : Nat} (h : posP P l = (k : Int)) : DelI P l l k (k + 1) := by
  obtain ⟨h1, ⟨x, hx, hp⟩, h3⟩ := posP_some h
  refine ⟨rfl, ?_, rfl⟩
  rw [take_snoc hx, List.filter_append]
  have e1 : (l.take k).filter (fun x => !P x) = l.take k := by
    rw [List.filter_eq_self]
    intro y hy
    obtain ⟨j, hj⟩ := List.mem_iff_getElem?.1 hy
    rw [List.getElem?_take] at hj
    split at hj
    · rename_i hjk; rw [h3 j y hjk hj]; rfl
    · cases hj
  rw [e1]
  simp [hp]
theorem DelI.at_ {P : A3 → Bool} {l R : List A3} {a b : Nat} (h : DelI P l R a b) {x : A3} (hx : R[b]? = some x) : l[b]? = some x := by
  have := congrArg (fun s => s[0]?) h.high
  simp only [List.getElem?_drop, Nat.add_zero] at this
  rw [← this]; exact hx
theorem DelI.skip {P : A3 → Bool} {l R : List A3} {a b : Nat} (h : DelI P l R a b) {x : A3} (hx : R[b]? = some x) (hp : P x = true) : DelI P l R a (b + 1) := by
  refine ⟨h.len, ?_, ?_⟩
  · rw [take_snoc (h.at_ hx), List.filter_append, ← h.low]; simp [hp]
  · rw [show b + 1 = b + 1 from rfl, ← List.drop_drop, ← List.drop_drop, h.high]
theorem DelI.keep {P : A3 → Bool} {l R : List A3} {a b : Nat} (h : DelI P l R a b) (hab : a < b) {x : A3} (hx : R[b]? = some x) (hp : P x = false) : DelI P l (R.set a x) (a + 1) (b + 1) := by
  have hb := (List.getElem?_eq_some_iff.1 hx).1
  refine ⟨by rw [List.length_set]; exact h.len, ?_, ?_⟩
  · have e : (R.set a x).take (a + 1) = R.take a ++ [x] := by
      rw [List.take_add_one, List.getElem?_set_self (by omega), List.take_set_of_le (Nat.le_refl _)]
      rfl
    rw [e, h.low, take_snoc (h.at_ hx), List.filter_append]; simp [hp]
  · rw [List.drop_set_of_lt (by omega), ← List.drop_drop, ← List.drop_drop, h.high]

set_option maxRecDepth 100000 in
set_option maxHeartbeats 8000000 in
theorem delete_fun3 (f : FuncId) (q : Value) (P : A3 → Bool) (I : World → Prop) (l : List A3) (B : Nat) (v : Value) (w : World) (hl : l.length ≤ 100000000) (ho : OwnA3 w B v l) (hi : I w)
    (hi1 : ∀ a b, I a → Below a.heap.size a b → I b) (hi2 : ∀ a b, I a → a.grownBy b v.ownBlock → I b)
    (hcf : ∀ (args : Array Value) (w : World), (callFunc f args).run Try.prog w = .ok (.enter f args) w)
    (hC : ∀ (x : A3) (w' : World), I w' → Calls Try.prog f #[x.val, q] w' fun e w2 => e = .returned (.bool (P x)) ∧ Below w'.heap.size w' w2) :
    Calls Try.prog 21 #[v, .func (.func f) #[] #[q]] w fun e w' => ∃ u, e = .returned u ∧ OwnA3 w' B u (l.filter (fun x => !P x)) ∧ w.grownBy w' v.ownBlock := by
  obtain ⟨p, c, rfl, hc, hr, hp⟩ := ho.form
  obtain ⟨n, hn⟩ : ∃ n, l.length = n := ⟨_, rfl⟩
  have HX := index_fun3 f q P l p n c w hn (by omega) hr hcf (fun x w' hb => hC x w' (hi1 _ _ hi hb))
  have hbd := posP_bd P l
  obtain ⟨z, hz⟩ : ∃ z, posP P l = z := ⟨_, rfl⟩
  rw [hn] at hl hc hp ho hbd hi2 ⊢
  rw [hz] at HX hbd
  replace HX := Lib.hid HX
  have HZ := Lib.hid hz
  have HN := Lib.hid hn
  have HO := Lib.hid ho
  have HI := Lib.hid hi
  have HI1 := Lib.hid hi1
  have HI2 := Lib.hid hi2
  have HC := Lib.hid hC
  have HP := Lib.hid hp
  have HR := Lib.hid hr
  clear hr hn ho hi hi1 hi2 hC hp hz
  go_enter Try.func21, Try.ntmps21
  go_wp2_with fail
  refine (HX.out).mono ?_
  rintro e w1 ⟨rfl, b1⟩
  have HO1 := Lib.hid (HO.out.below b1)
  have HG1 : Hid (w.grownBy w1 (Value.slice p n c).ownBlock) := Lib.hid (below_grown b1)
  have HI3 := Lib.hid (HI1.out _ _ HI.out b1)
  clear b1
  by_cases hm : z = -1
  · have HF := Lib.hid (posP_no (HZ.out.trans hm))
    have hme : (z == -1) = true := by simp [hm]
    clear hm
    go_wp2_with fail
    go_ret
    exact ⟨_, rfl, by rw [HF.out]; exact HO1.out, HG1.out⟩
  · obtain ⟨k, hk⟩ : ∃ k : Nat, z = (k : Int) := ⟨z.toNat, by omega⟩
    have hme : (z == -1) = false := by simp [hm]
    have HD := Lib.hid (DelI.start (HZ.out.trans hk))
    have hkn : k < n := by have := (posP_some (HZ.out.trans hk)).1; have := HN.out; omega
    clear hm
    subst hk
    obtain ⟨g, rfl, _⟩ := HP.out (by omega)
    have m9 : (k : Int) ≤ 100000000 := by omega
    have m8 : (0 : Int) ≤ (k : Int) := by omega
    go_wp2_with fail
    go_loopw [5, 6, 7] (fun i j _ wr => ∃ (a b : Nat) (R : List A3), a < b ∧ b ≤ n ∧ i = .int .i64 a ∧ j = .int .i64 b ∧ Hid (DelI P l R a b) ∧ Hid (OwnA3 wr B (.slice (some ⟨g, 0, none⟩) n c) R) ∧ Hid (w.grownBy wr (some g)) ∧ Hid (I wr)) (fun _ j _ _ => n - (intOf j).toNat)
    case atStart => exact ⟨k, k + 1, l, by omega, by omega, rfl, by go_num, HD, HO1, HG1, HI3⟩
    case round =>
      clear HD HO1 HG1 HI3 hkn hme m9 m8 hbd
      obtain ⟨a, b, R, hab, hbn, rfl, rfl, HD, HO1, HG1, HI3⟩ := hrel
      have HRl := Lib.hid (HD.out.len.trans HN.out)
      have HGz := Lib.hid HG1.out.size
      by_cases hlt : b < n
      · obtain ⟨y, hy, d0, d1, d2, hf, _, hg⟩ := HO1.out.slots HRl.out b hlt
        obtain ⟨y2, _, e0, e1, e2, _, _, _⟩ := HO1.out.slots HRl.out a (by omega)
        have HY := Lib.hid hy
        clear hy
        have m0 : (0 : Int) ≤ (b : Int) := by omega
        have m1 : (b : Int) < (n : Int) := by omega
        have m2 : (0 : Int) ≤ (a : Int) := by omega
        have m3 : (a : Int) < (n : Int) := by omega
        have m4 : (n : Int) ≤ 100000000 := by omega
        have HW : Hid (Below wr.heap.size wr (wr.alloc (A3.obj y))) := Lib.hid ((Below.refl _ _).alloc (Nat.le_refl _) _)
        have HI4 := Lib.hid (HI1.out _ _ HI3.out HW.out)
        have HT : Hid (TBox (wr.alloc (A3.obj y)) wr.heap.size y) := Lib.hid (TBox.newAt rfl rfl)
        go_wp2_with fail
        refine (HC.out y _ HI4.out).mono ?_
        rintro e w2 ⟨rfl, b2⟩
        have HT2 := Lib.hid (HT.out.below b2)
        have HO2 := Lib.hid ((HO1.out.below HW.out).below b2)
        have HG2 : Hid (w.grownBy w2 (some g)) := Lib.hid ((HG1.out.trans (below_grown HW.out)).trans (below_grown b2))
        have HI5 := Lib.hid (HI1.out _ _ HI4.out b2)
        have HGz2 : Hid (wr.heap.size < w2.heap.size) := Lib.hid (by have := b2.size; simp at this; omega)
        clear b2 HT HW HI4 d0 d1 d2 e0 e1 e2 hf
        obtain ⟨t0, t1, t2, _⟩ := HT2.out.cell
        obtain ⟨y3, _, e0, e1, e2, hf, _, hg2⟩ := HO2.out.slots HRl.out a (by omega)
        cases hs : P y
        · have HD2 := Lib.hid (HD.out.keep hab HY.out hs)
          have HS := Lib.hid (HO2.out.store HRl.out a (by omega) y)
          have HGS : Hid (w.grownBy (((w2.setCell ⟨g, a * 3, none⟩ (.int .i64 y.a)).setCell ⟨g, a * 3 + 1, none⟩ (.int .i64 y.b)).setCell ⟨g, a * 3 + 2, none⟩ (.int .i64 y.c)) (some g)) := Lib.hid (grown_set (grown_set (grown_set HG2.out _ _) _ _) _ _)
          have HIS : Hid (I (((w2.setCell ⟨g, a * 3, none⟩ (.int .i64 y.a)).setCell ⟨g, a * 3 + 1, none⟩ (.int .i64 y.b)).setCell ⟨g, a * 3 + 2, none⟩ (.int .i64 y.c))) := Lib.hid (HI2.out _ _ HI5.out (grown_set (grown_set (grown_set (World.grownBy.refl _ _) _ _) _ _) _ _))
          clear hs
          go_wp2_with fail
          go_roundw
          case rel => exact ⟨a + 1, b + 1, _, by omega, by omega, by go_num, by go_num, HD2, HS, HGS, HIS⟩
          case measure => simp [intOf]; omega
        · have HD2 := Lib.hid (HD.out.skip HY.out hs)
          clear hs
          go_wp2_with fail
          go_roundw
          case rel => exact ⟨a, b + 1, R, by omega, by omega, rfl, by go_num, HD2, HO2, HG2, HI5⟩
          case measure => simp [intOf]; omega
      · obtain rfl : b = n := by omega
        have HFin : Hid (R.take a = l.filter (fun x => !P x)) := Lib.hid (by rw [HD.out.low, ← HN.out, List.take_length])
        have HSh := Lib.hid (OwnA3.shrink HO1.out HRl.out (Nat.le_of_lt hab))
        have HLen : Hid ((l.filter (fun x => !P x)).length = a) := Lib.hid (by rw [← HFin.out, List.length_take, HRl.out]; omega)
        rw [HFin.out] at HSh
        have hclr := fun ty => run_clear3 wr ty g (a * 3) (b - a) (c - a) (by omega) (fun j hj => by
          exact (OwnA3.some_ HRl.out HO1.out).1 _ (by omega)) (fun j hj => (OwnA3.some_ HRl.out HO1.out).2 _)
        have HB2 := Lib.hid (OwnA3.behind HLen.out (List.replicate ((b - a) * 3) (.int .i64 0)) (a * 3) wr (by omega) HSh.out)
        have HG3 := Lib.hid (grown_cells (List.replicate ((b - a) * 3) (.int .i64 0)) (a * 3) wr HG1.out)
        obtain ⟨W, hW⟩ : ∃ W, wr.setCells g (a * 3) (List.replicate ((b - a) * 3) (.int .i64 0)) = W := ⟨_, rfl⟩
        rw [hW] at HB2 HG3 hclr
        have hcc : b ≤ c := by omega
        have hne : ¬ c = a := by omega
        have m0 : (0 : Int) ≤ (a : Int) := by omega
        have m1 : (a : Int) ≤ (b : Int) := by omega
        have m2 : (a : Int) ≤ (c : Int) := by omega
        have m3 : (b : Int) ≤ (c : Int) := by omega
        clear hW
        go_wp2_with fail
        go_ret
        exact ⟨_, rfl, HB2.out, HG3.out⟩
end Go.Proofs.Ytnibkipepmakgaa.parting
