/- Merged texts: H8, H9. -/
import Derived.Test.YtjmlefcmhjodeaaGIsGhost0
import Derived.Test.YtjmlefcmhjodeaaX4
import Derived.Test.YtjmlefcmhjodeaaPu
import Derived.Test.YtjmlefcmhjodeaaLn
import Derived.WalkMore
/- Can six cards be parted into pairs whose third cards are a line: the model's recursion. -/
namespace Go.Proofs.Ytjmlefcmhjodeaa.others
open Go.RowKit
open cards reg
set_option linter.unusedVariables false

/-- append(s, ..). -/
theorem exec_append {a : Act} {o : Oper} {s x : Operand} {T : TypeId} {v u v' : Value} {w w' : World} (hop : o.op = .call { callee := .builtin .append, args := #[s, x], argTypes := #[T, T] }) (hs : a.eval s = v) (hx : a.eval x = u)
    (h : (Builtin.append_ #[T, T] o.type #[v, u]).run Try.prog w = .ok v' w') : (execOp a.eval o).run Try.prog w = .ok (.value v') w' := by
  simp [execOp, hop, resolve, invoke, builtin, hs, hx, h, Result.andThen]
/-- A card is read where it lies. -/
theorem load_cardAt {w : World} {b o : Nat} {x : Cd} (h0 : w.cell? ⟨b, o, none⟩ = some (.int .i64 x.a)) (h1 : w.cell? ⟨b, o + 1, none⟩ = some (.int .i64 x.b)) (h2 : w.cell? ⟨b, o + 2, none⟩ = some (.int .i64 x.c)) (h3 : w.cell? ⟨b, o + 3, none⟩ = some (.int .i64 x.d)) :
    (loadVar 25 ⟨b, o, none⟩).run Try.prog w = .ok x.val w := by
  simp [loadVar, go_sem, h0, h1, h2, h3]
theorem rd_one (w : World) (x : Cd) : Rd (w.alloc x.obj) (some ⟨w.heap.size, 0, none⟩) (flat [x]) := fun _ => by
  refine ⟨w.heap.size, 0, rfl, by simp, fun j v hv => ?_⟩
  rw [Nat.zero_add, cell_of_row _ _ j _ _ _ (heap_alloc_new w _)]
  rw [← hv]; simp [flat, Cd.cells]
/-- What comes of the k-th partner of the first card. -/
def thK (r : Nat) (h T : List Cd) (k : Nat) : Bool := match h[0]?, h[k]? with
  | some x, some y => thB r (dropAt (dropAt h k) 0) (T ++ [third x y])
  | _, _ => false
theorem thB_succ (r : Nat) (h T : List Cd) : thB (r + 1) h T = (List.range h.length).any fun k => decide (1 ≤ k) && thK r h T k := rfl
theorem thB_yes {r : Nat} {h T : List Cd} {k : Nat} (h1 : 1 ≤ k) (h2 : k < h.length) (hk : thK r h T k = true) : thB (r + 1) h T = true := by
  rw [thB_succ]
  exact List.any_eq_true.2 ⟨k, by simpa using h2, by rw [hk, Bool.and_true]; exact decide_eq_true h1⟩
theorem thB_no {r : Nat} {h T : List Cd} (hk : ∀ k, 1 ≤ k → k < h.length → thK r h T k = false) : thB (r + 1) h T = false := by
  rw [thB_succ, List.any_eq_false]
  intro k hm
  have := List.mem_range.1 hm
  by_cases h1 : 1 ≤ k
  · rw [hk k h1 this]; simp
  · simp [h1]
theorem thK_at {r : Nat} {h T : List Cd} {k : Nat} {x y : Cd} (hx : h[0]? = some x) (hy : h[k]? = some y) : thK r h T k = thB r (dropAt (dropAt h k) 0) (T ++ [third x y]) := by
  unfold thK; rw [hx, hy]
theorem drop_ok {h : List Cd} {k : Nat} (hh : h.all Cd.ok = true) : (dropAt h k).all Cd.ok = true := by
  unfold dropAt
  rw [List.all_eq_true] at hh ⊢
  intro x hx
  rcases List.mem_append.1 hx with hx | hx
  · exact hh x (List.mem_of_mem_take hx)
  · exact hh x (List.mem_of_mem_drop hx)
theorem drop_len {h : List Cd} {k : Nat} (hk : k < h.length) : (dropAt h k).length = h.length - 1 := by
  unfold dropAt
  rw [List.length_append, List.length_take, List.length_drop]; omega

set_option maxRecDepth 100000 in
set_option maxHeartbeats 4000000 in
theorem thirds_end (T : List Cd) (ph : Option Addr) (cp : Nat) (pT : Option Addr) (cT : Nat) (w : World) (hT : T.length = 3) (hr : Rd w pT (flat T)) (hok : T.all Cd.ok = true) (h : List Cd) :
    Calls Try.prog 78 #[.slice ph 0 cp, .slice pT 3 cT] w fun e w' => e = .returned (.bool (thB 0 h T)) ∧ Below w.heap.size w w' := by
  obtain ⟨bx, o, x, rfl, hb, hx, c0, c1, c2, c3⟩ := hr.card (k := 0) (by omega)
  obtain ⟨bx', o', y, e1, hb', hy, d0, d1, d2, d3⟩ := hr.card (k := 1) (by omega)
  injection e1 with e1; injection e1 with e1 e2; subst e1; subst e2
  obtain ⟨bx', o', z, e1, hb', hz, f0, f1, f2, f3⟩ := hr.card (k := 2) (by omega)
  injection e1 with e1; injection e1 with e1 e2; subst e1; subst e2
  have HX := Lib.hid (ok_at hok hx)
  have HY := Lib.hid (ok_at hok hy)
  have HZ := Lib.hid (ok_at hok hz)
  have HT : Hid (thB 0 h T = line x y z) := Lib.hid (by
    match T, hT, hx, hy, hz with
    | [a, b, c], _, hx, hy, hz =>
      simp at hx hy hz
      subst hx; subst hy; subst hz
      rfl)
  rw [HT.out]
  have HL := Lib.hid (fun w => l2_line x y z w HX.out HY.out HZ.out)
  clear hr hx hy hz hok hT
  go_enter Try.func78, Try.ntmps78
  go_upto_region 2 with fail
  have HC : Hid (∀ w', BI w w' → (loadVar 25 ⟨bx, o + 0 * 4, none⟩).run Try.prog w' = .ok x.val w' ∧ (loadVar 25 ⟨bx, o + 1 * 4, none⟩).run Try.prog w' = .ok y.val w' ∧ (loadVar 25 ⟨bx, o + 2 * 4, none⟩).run Try.prog w' = .ok z.val w') := Lib.hid (fun w' b => by
    have q := fun (j : Nat) {v : Value} (e : w.cell? ⟨bx, j, none⟩ = some v) => (Below.cell (p := ⟨bx, j, none⟩) b hb).trans e
    exact ⟨load_cardAt (q _ c0) (q _ c1) (q _ c2) (q _ c3), load_cardAt (q _ d0) (q _ d1) (q _ d2) (q _ d3), load_cardAt (q _ f0) (q _ f1) (q _ f2) (q _ f3)⟩)
  clear c0 c1 c2 c3 d0 d1 d2 d3 f0 f1 f2 f3
  refine region_BI [(true, 0), (true, 1), (true, 2), (true, 3), (true, 4), (true, 5), (true, 6), (true, 7), (true, 8), (false, 9), (true, 10)] (by kernel_rfl) rfl (by kernel_rfl) ?_
  refine chain_pure 10 (v := .slice (some ⟨bx, o, none⟩) 3 cT) rfl rfl rfl (fun w => by kernel_rfl) ?_
  refine chain_pure 11 (v := .pointer (some ⟨bx, o + 0 * 4, none⟩)) rfl rfl rfl (exec_indexS (k := 0) (n := 3) (cp := cT) (by omega) rfl (by kernel_rfl) (by kernel_rfl)) ?_
  refine chain_read 12 (v := x.val) rfl rfl rfl (fun w' h => exec_cell rfl (by kernel_rfl) (HC.out w' h).1) ?_
  refine chain_pure 13 (v := .slice (some ⟨bx, o, none⟩) 3 cT) rfl rfl rfl (fun w => by kernel_rfl) ?_
  refine chain_pure 14 (v := .pointer (some ⟨bx, o + 1 * 4, none⟩)) rfl rfl rfl (exec_indexS (k := 1) (n := 3) (cp := cT) (by omega) rfl (by kernel_rfl) (by kernel_rfl)) ?_
  refine chain_read 15 (v := y.val) rfl rfl rfl (fun w' h => exec_cell rfl (by kernel_rfl) (HC.out w' h).2.1) ?_
  refine chain_pure 16 (v := .slice (some ⟨bx, o, none⟩) 3 cT) rfl rfl rfl (fun w => by kernel_rfl) ?_
  refine chain_pure 17 (v := .pointer (some ⟨bx, o + 2 * 4, none⟩)) rfl rfl rfl (exec_indexS (k := 2) (n := 3) (cp := cT) (by omega) rfl (by kernel_rfl) (by kernel_rfl)) ?_
  refine chain_read 18 (v := z.val) rfl rfl rfl (fun w' h => exec_cell rfl (by kernel_rfl) (HC.out w' h).2.2) ?_
  refine chain_call 19 rfl rfl rfl (fun w => by kernel_rfl) (fun w _ => HL.out w) ?_
  refine chain_pure 4 (v := .bool (line x y z)) rfl rfl rfl (fun w => by kernel_rfl) ?_
  intro w1 b1
  simp only [Act.put, List.setIfInBounds_toArray, List.set_cons_zero, List.set_cons_succ]
  have HB := Lib.hid b1
  clear b1
  go_wp2_with fail
  go_ret
  exact ⟨rfl, HB.out⟩

set_option maxRecDepth 100000 in
set_option maxHeartbeats 8000000 in
theorem l10_thirds : ∀ (r : Nat) (h T : List Cd) (ph : Option Addr) (n cp : Nat) (pT : Option Addr) (m cT : Nat) (w : World), h.length = n → n = 2 * r → n ≤ cp → Rd w ph (flat h) → h.all Cd.ok = true → T.length = m → m + r = 3 → Rd w pT (flat T) → (pT = none → cT = 0) → T.all Cd.ok = true →
    Calls Try.prog 78 #[.slice ph n cp, .slice pT m cT] w fun e w' => e = .returned (.bool (thB r h T)) ∧ Below w.heap.size w w'
  | 0, h, T, ph, n, cp, pT, m, cT, w, hn, h2, hcp, hr, hok, hm, hmr, hrT, h0, hokT => by
    obtain rfl : n = 0 := by omega
    obtain rfl : m = 3 := by omega
    exact thirds_end T ph cp pT cT w hm hrT hokT h
  | r + 1, h, T, ph, n, cp, pT, m, cT, w, hn, h2, hcp, hr, hok, hm, hmr, hrT, h0, hokT => by
    have HN := Lib.hid hn
    have H2 := Lib.hid h2
    have HM := Lib.hid hm
    have HH0 := Lib.hid hr
    have HT0 := Lib.hid hrT
    have HOk := Lib.hid hok
    have HOT := Lib.hid hokT
    have HP0 := Lib.hid h0
    have HCp := Lib.hid hcp
    have hn2 : 2 ≤ n := by omega
    have hn6 : n ≤ 6 := by omega
    have hm3 : m ≤ 3 := by omega
    have HMr := Lib.hid hmr
    obtain ⟨bh, oh, x, rfl, hbh, hx, _⟩ := hr.card (k := 0) (by omega)
    have HX := Lib.hid hx
    have HXo := Lib.hid (ok_at hok hx)
    obtain ⟨nr, hnr⟩ : ∃ nr, 2 * r = nr := ⟨_, rfl⟩
    have HNr := Lib.hid (show nr = n - 2 by omega)
    have HIH := Lib.hid (fun (h' T' : List Cd) (ph : Option Addr) (cp : Nat) (pT : Option Addr) (cT : Nat) (w : World) (a1 : h'.length = nr) a3 a4 a5 (a6 : T'.length = m + 1) a8 a9 a10 => l10_thirds r h' T' ph nr cp pT (m + 1) cT w a1 hnr.symm a3 a4 a5 a6 (by omega) a8 a9 a10)
    have HNo := Lib.hid (fun (q : ∀ k, 1 ≤ k → k < n → thK r h T k = false) => thB_no (r := r) (h := h) (T := T) (fun k a b => q k a (by omega)))
    have HYe := Lib.hid (fun k (a : 1 ≤ k) (b : k < n) (q : thK r h T k = true) => thB_yes a (by omega) q)
    have HDl := Lib.hid (fun k (hk : k < n) => (drop_len (h := h) (k := k) (by omega)).trans (by rw [hn]))
    clear hn h2 hcp hr hok hm hmr hrT h0 hokT hx hnr
    have hd : ((n : Int) == 0) = false := beq_eq_false_iff_ne.2 (by omega)
    go_enter Try.func78, Try.ntmps78
    go_wp2_with fail
    go_loopw [4, 5, 6] (fun _ k _ wr => ∃ i : Nat, 1 ≤ i ∧ i ≤ n ∧ k = .int .i64 i ∧ Hid (∀ j, 1 ≤ j → j < i → thK r h T j = false) ∧ Hid (Below w.heap.size w wr)) (fun _ k _ _ => n - (intOf k).toNat)
    case atStart => exact ⟨1, Nat.le_refl _, by omega, rfl, Lib.hid (fun j a b => by omega), Lib.hid (by repeat (first | with_reducible exact Below.refl _ _ | with_reducible exact HB.out | with_reducible apply Below.drew | with_reducible apply bdN | with_reducible refine Below.alloc ?_ (by first | exact Nat.le_refl _ | with_reducible exact HB.out.size | omega | (simp; done) | (simp; omega) | (have := HB.out.size; simp at *; omega)) _ | with_reducible refine Below.setCell ?_ (by first | exact Nat.le_refl _ | with_reducible exact HB.out.size | omega | (simp; done) | (simp; omega) | (have := HB.out.size; simp at *; omega)) _))⟩
    case round =>
      obtain ⟨i, hi1, hi, rfl, HF, HB⟩ := hrel
      have i0 : (0 : Int) ≤ (i : Int) := by omega
      by_cases hlt : i < n
      · have i1 : (i : Int) < (n : Int) := by omega
        obtain ⟨bx', ox', y, e1, hb', hy, d0, d1, d2, d3⟩ := (HH0.out.below HB.out).card (k := i) (by rw [HN.out]; exact hlt)
        injection e1 with e1; injection e1 with e1 e2; subst e1; subst e2
        obtain ⟨bx', ox', x', e1, _, hx', f0, f1, f2, f3⟩ := (HH0.out.below HB.out).card (k := 0) (by rw [HN.out]; omega)
        injection e1 with e1; injection e1 with e1 e2; subst e1; subst e2
        obtain rfl : x' = x := by have h := HX.out; rw [h] at hx'; injection hx' with hx'; exact hx'.symm
        have HYo := Lib.hid (ok_at HOk.out hy)
        have HKa := Lib.hid (thK_at (r := r) (T := T) HX.out hy)
        have HLd : Hid (∀ w', BI wr w' → (loadVar 25 ⟨bh, oh + 0 * 4, none⟩).run Try.prog w' = .ok x'.val w' ∧ (loadVar 25 ⟨bh, oh + i * 4, none⟩).run Try.prog w' = .ok y.val w') := Lib.hid (fun w' b => by
          have q := fun (j : Nat) {v : Value} (e : wr.cell? ⟨bh, j, none⟩ = some v) => (Below.cell (p := ⟨bh, j, none⟩) b hb').trans e
          exact ⟨load_cardAt (q _ f0) (q _ f1) (q _ f2) (q _ f3), load_cardAt (q _ d0) (q _ d1) (q _ d2) (q _ d3)⟩)
        clear hx' hy d0 d1 d2 d3 f0 f1 f2 f3 hb'
        go_wp2_with fail
        refine (l2_drop h i bh oh n cp _ HN.out (by omega) HCp.out hlt (HH0.out.below HB.out)).mono ?_
        rintro e w1 ⟨u, rfl, hu, b1⟩
        have hu : OwnN w1 wr.heap.size u (dropAt h i) := hu
        obtain ⟨g1, c1, rfl, hc1, hr1⟩ := hu.form
        have HD1 := Lib.hid (HDl.out i hlt)
        have HR1 := Lib.hid hr1
        have HC1 := Lib.hid hc1
        clear hu hc1 hr1
        obtain ⟨n1, hn1⟩ : ∃ n1, (dropAt h i).length = n1 := ⟨_, rfl⟩
        have HN1 := Lib.hid hn1
        rw [hn1] at HC1 HD1 ⊢
        clear hn1
        go_wp2_with fail
        refine (l2_drop (dropAt h i) 0 g1 0 n1 c1 _ HN1.out (by have := HD1.out; omega) HC1.out (by have := HD1.out; omega) HR1.out).mono ?_
        rintro e w2 ⟨u, rfl, hu, b2⟩
        have hu : OwnN w2 w1.heap.size u (dropAt (dropAt h i) 0) := hu
        obtain ⟨g2, c2, rfl, hc2, hr2⟩ := hu.form
        have HD2 : Hid ((dropAt (dropAt h i) 0).length = nr) := Lib.hid (by rw [drop_len (by rw [HN1.out]; have := HD1.out; omega), HN1.out, HD1.out, HNr.out]; omega)
        rw [HD2.out] at hc2 ⊢
        have HR2 := Lib.hid hr2
        have HC2 := Lib.hid hc2
        have HB2 : Hid (Below wr.heap.size wr w2) := Lib.hid (b1.trans (b2.mono b1.size))
        clear hu hc2 hr2 b1 b2
        go_upto_region 7 with fail
        have HT2 := Lib.hid ((HT0.out.below HB.out).below HB2.out)
        refine region_any (BI w2) 14 (by kernel_rfl) rfl ?_
        refine take_p 0 30 (v := .slice (some ⟨g2, 0, none⟩) nr c2) rfl rfl rfl (by kernel_rfl) (by kernel_rfl) (by kernel_rfl) (fun w' h => by kernel_rfl) (BI.start w2) ?_
        refine take_p 1 31 (v := .slice pT m cT) rfl rfl rfl (by kernel_rfl) (by kernel_rfl) (by kernel_rfl) (fun w' h => by kernel_rfl) (BI.start w2) ?_
        refine take_p 3 33 (v := .slice (some ⟨bh, oh, none⟩) n cp) rfl rfl rfl (by kernel_rfl) (by kernel_rfl) (by kernel_rfl) (fun w' h => by kernel_rfl) (BI.start w2) ?_
        refine take_p 4 34 (v := .pointer (some ⟨bh, oh + 0 * 4, none⟩)) rfl rfl rfl (by kernel_rfl) (by kernel_rfl) (by kernel_rfl) (fun w' h => exec_indexS (k := 0) (n := n) (cp := cp) (by omega) rfl (by kernel_rfl) (by kernel_rfl) w') (BI.start w2) ?_
        refine take_p 5 35 (v := x'.val) rfl rfl rfl (by kernel_rfl) (by kernel_rfl) (by kernel_rfl) (fun w' h => exec_cell rfl (by kernel_rfl) (HLd.out w' (HB2.out.trans (Below.mono h HB2.out.size))).1) (BI.start w2) ?_
        refine take_p 6 36 (v := .slice (some ⟨bh, oh, none⟩) n cp) rfl rfl rfl (by kernel_rfl) (by kernel_rfl) (by kernel_rfl) (fun w' h => by kernel_rfl) (BI.start w2) ?_
        refine take_p 7 37 (v := .int .i64 i) rfl rfl rfl (by kernel_rfl) (by kernel_rfl) (by kernel_rfl) (fun w' h => by kernel_rfl) (BI.start w2) ?_
        refine take_p 8 38 (v := .pointer (some ⟨bh, oh + i * 4, none⟩)) rfl rfl rfl (by kernel_rfl) (by kernel_rfl) (by kernel_rfl) (fun w' h => exec_indexS (k := i) (n := n) (cp := cp) hlt rfl (by kernel_rfl) (by kernel_rfl) w') (BI.start w2) ?_
        refine take_p 9 39 (v := y.val) rfl rfl rfl (by kernel_rfl) (by kernel_rfl) (by kernel_rfl) (fun w' h => exec_cell rfl (by kernel_rfl) (HLd.out w' (HB2.out.trans (Below.mono h HB2.out.size))).2) (BI.start w2) ?_
        refine wpAnyH_all (rs := [2]) (by kernel_rfl) (by decide) (fun j hj => ?_)
        obtain rfl : j = 2 := by simpa using hj
        refine op_call 2 32 rfl rfl rfl (f := 105) (args := #[.slice pT m cT]) (by kernel_rfl) ?_
        refine (l2_own T pT m cT _ HM.out (by omega) (HT2.out.below (BI.start w2)) HP0.out).mono ?_
        rintro e w3 ⟨u, rfl, hu, b3⟩
        have B3 : BI w2 w3 := BI.next (BI.start w2) b3
        have hu3 : OwnN w3 w2.heap.size u T := hu
        refine ⟨_, rfl, B3, any_strong (S' := BI w2) (fun w' h => h) _ _ _ _ ?_⟩
        refine wpAnyH_all (rs := [10]) (by kernel_rfl) (by decide) (fun j hj => ?_)
        obtain rfl : j = 10 := by simpa using hj
        refine op_call 10 40 rfl rfl rfl (f := 83) (args := #[x'.val, y.val]) (by kernel_rfl) ?_
        refine (l2_third x' y _ HXo.out HYo.out).mono ?_
        rintro e w4 ⟨rfl, b4⟩
        have B4 : BI w2 w4 := BI.next B3 b4
        have hu4 := hu3.below b4
        refine ⟨_, rfl, B4, ?_⟩
        refine wpAnyH_all (rs := [11]) (by kernel_rfl) (by decide) (fun j hj => ?_)
        obtain rfl : j = 11 := by simpa using hj
        refine op_val 11 41 rfl rfl rfl (v := .slice (some ⟨w4.heap.size, 0, none⟩) 1 1) (w' := w4.alloc (third x' y).obj) (by kernel_rfl) ?_
        have B5 : BI w2 (w4.alloc (third x' y).obj) := BI.next B4 ((Below.refl _ _).alloc (Nat.le_refl _) _)
        refine ⟨B5, ?_⟩
        refine wpAnyH_all (rs := [12]) (by kernel_rfl) (by decide) (fun j hj => ?_)
        obtain rfl : j = 12 := by simpa using hj
        obtain ⟨v6, w6, hrun6, hO6, hB6, hG6, hN6, hA6⟩ := run_append_cards (w4.alloc (third x' y).obj) 26 w2.heap.size u T [third x' y] (some ⟨w4.heap.size, 0, none⟩) 1 1 (hu4.alloc _).own rfl (rd_one w4 (third x' y)) (fun e => by cases e) (by rw [HM.out]; omega) (by have := Below.size B4; simp; omega)
        refine op_val 12 42 rfl rfl rfl (v := v6) (w' := w6) (exec_append rfl (by kernel_rfl) (by kernel_rfl) hrun6) ?_
        have B6 : BI w2 w6 := Below.trans B5 hB6
        refine ⟨B6, ?_⟩
        refine wpAnyH_all (rs := [13]) (by kernel_rfl) (by decide) (fun j hj => ?_)
        obtain rfl : j = 13 := by simpa using hj
        have hO7 : OwnN w6 w2.heap.size v6 (T ++ [third x' y]) := ⟨hO6, hN6 hu4.2⟩
        obtain ⟨g6, c6, rfl, hc6, hr6⟩ := hO7.form
        have hl6 : (T ++ [third x' y]).length = m + 1 := by rw [List.length_append, HM.out]; rfl
        rw [hl6]
        refine op_call 13 43 rfl rfl rfl (f := 78) (args := #[.slice (some ⟨g2, 0, none⟩) nr c2, .slice (some ⟨g6, 0, none⟩) (m + 1) c6]) (by kernel_rfl) ?_
        refine (HIH.out (dropAt (dropAt h i) 0) (T ++ [third x' y]) (some ⟨g2, 0, none⟩) c2 (some ⟨g6, 0, none⟩) c6 w6 HD2.out HC2.out (HR2.out.below B6) (drop_ok (drop_ok HOk.out)) hl6 hr6 (fun e => by cases e) (by rw [List.all_append, HOT.out]; simp [third_ok])).mono ?_
        rintro e w7 ⟨rfl, b7⟩
        rw [← HKa.out]
        refine ⟨_, rfl, BI.next B6 b7, ?_⟩
        refine seq_of [] _ _ _ (by kernel_rfl) (BI.next B6 b7) (NoPanic.normal ?_)
        have HBf := Lib.hid (HB.out.trans ((HB2.out.trans (Below.mono (BI.next B6 b7 : BI w2 w7) HB2.out.size)).mono HB.out.size))
        clear hu hu3 hu4 hrun6 hO6 hB6 hG6 hN6 hA6 hO7 hc6 hr6 hl6 b3 b4 b7 B3 B4 B5 B6
        change Exit.then _ _ _ (Act.put _ (some 43) (.bool (thK r h T i))) w7
        obtain ⟨q, hq⟩ : ∃ q, thK r h T i = q := ⟨_, rfl⟩
        have HQ := Lib.hid hq
        rw [hq]
        clear hq
        simp only [Act.put, List.setIfInBounds_toArray, List.set_cons_zero, List.set_cons_succ]
        cases q
        · go_wp2_with fail
          go_roundw
          case rel => exact ⟨i + 1, by omega, by omega, by go_num, Lib.hid (fun j a b => by rcases Nat.lt_or_ge j i with h | h; exact HF.out j a h; obtain rfl : j = i := (by omega); exact HQ.out), HBf⟩
          case measure => simp [intOf]; omega
        · have HR := Lib.hid (HYe.out i hi1 hlt HQ.out)
          go_wp2_with fail
          go_ret
          exact ⟨by rw [HR.out]; rfl, HBf.out⟩
      · obtain rfl : i = n := by omega
        have HR := Lib.hid (HNo.out HF.out)
        go_wp2_with fail
        go_ret
        exact ⟨by rw [HR.out]; rfl, HB.out⟩
end Go.Proofs.Ytjmlefcmhjodeaa.others

/- IsGhost: the model's. -/
namespace Go.Proofs.Ytjmlefcmhjodeaa.others
open Go.RowKit
open cards reg
set_option linter.unusedVariables false

set_option maxRecDepth 100000 in
set_option maxHeartbeats 2000000 in
theorem spec_ig (l : List Cd) (p : Option Addr) (n c : Nat) (w : World) (hn : l.length = n) (hl : n ≤ 1000000000) (hr : Rd w p (flat l)) (hc : n ≤ c) :
    Calls Try.prog 43 #[.slice p n c] w fun e w' => e = .returned (.tuple #[.bool (igR l).1, .bool (igR l).2]) ∧ Below w.heap.size w w' := by
  have HN := Lib.hid hn
  have HR := Lib.hid hr
  have HCc := Lib.hid hc
  clear hn hr hc
  go_enter Try.func43, Try.ntmps43
  go_wp2_with fail
  refine ((l2_hand l p n c _ HN.out hl (by repeat (first | with_reducible exact HR.out | with_reducible apply Rd.drewN | with_reducible apply Rd.drew | with_reducible apply Rd.alloc)))).mono ?_
  rintro e w1 ⟨rfl, b⟩
  have Sw1 := Lib.hid b.size
  have HB := Lib.hid (chain0 (w := w) (by repeat (first | with_reducible exact Below.refl _ _ | with_reducible exact HB.out | with_reducible apply Below.drew | with_reducible apply bdN | with_reducible refine Below.alloc ?_ (by first | exact Nat.le_refl _ | with_reducible exact HB.out.size | omega | (simp; done) | (simp; omega) | (have := HB.out.size; simp at *; omega)) _ | with_reducible refine Below.setCell ?_ (by first | exact Nat.le_refl _ | with_reducible exact HB.out.size | omega | (simp; done) | (simp; omega) | (have := HB.out.size; simp at *; omega)) _)) b)
  have HR := Lib.hid (Rd.below (by repeat (first | with_reducible exact HR.out | with_reducible apply Rd.drewN | with_reducible apply Rd.drew | with_reducible apply Rd.alloc)) b)
  clear b
  cases hh : handB l
  · have HT := Lib.hid (show (false, false) = igR l from (igR_no (.inl hh)).symm)
    go_wp2_with fail
    go_ret2
    exact ⟨by rw [← HT.out]; rfl, by repeat (first | with_reducible exact Below.refl _ _ | with_reducible exact HB.out | with_reducible apply Below.drew | with_reducible apply bdN | with_reducible refine Below.alloc ?_ (by first | exact Nat.le_refl _ | with_reducible exact HB.out.size | omega | (simp; done) | (simp; omega) | (have := HB.out.size; simp at *; omega)) _ | with_reducible refine Below.setCell ?_ (by first | exact Nat.le_refl _ | with_reducible exact HB.out.size | omega | (simp; done) | (simp; omega) | (have := HB.out.size; simp at *; omega)) _)⟩
  · by_cases h6 : n = 6
    · subst h6
      have HT := Lib.hid (show (thB 3 l [], true) = igR l by unfold igR; rw [if_pos ⟨hh, HN.out⟩])
      have HK := Lib.hid (handB_true.1 hh).2.1
      have HC := Lib.hid (fun (w : World) (g : Nat) (h : Rd w p (flat l)) => l10_thirds 3 l [] p 6 c (some ⟨g, 0, none⟩) 0 0 w HN.out rfl HCc.out h HK.out rfl rfl (fun q => by simp [flat] at q) (fun e => by cases e) rfl)
      have b : Below w1.heap.size w1 (w1.alloc (.cells #[] 25)) := (Below.refl _ _).alloc (Nat.le_refl _) _
      have HR2 := Lib.hid (HR.out.below b)
      have HB2 := Lib.hid (HB.out.trans (b.mono HB.out.size))
      clear hh b
      generalize thB 3 l [] = q at *
      go_wp2_with fail
      refine (HC.out _ _ HR2.out).mono ?_
      rintro e w2 ⟨rfl, b⟩
      have HB3 := Lib.hid (HB2.out.trans (b.mono HB2.out.size))
      clear b
      go_wp2_with fail
      go_ret2
      exact ⟨by rw [← HT.out]; rfl, HB3.out⟩
    · have e6 : ((n : Int) == 6) = false := by simp; omega
      have HT := Lib.hid (show (false, false) = igR l from (igR_no (.inr (by rw [HN.out]; exact h6))).symm)
      clear h6
      go_wp2_with fail
      go_ret2
      exact ⟨by rw [← HT.out]; rfl, by repeat (first | with_reducible exact Below.refl _ _ | with_reducible exact HB.out | with_reducible apply Below.drew | with_reducible apply bdN | with_reducible refine Below.alloc ?_ (by first | exact Nat.le_refl _ | with_reducible exact HB.out.size | omega | (simp; done) | (simp; omega) | (have := HB.out.size; simp at *; omega)) _ | with_reducible refine Below.setCell ?_ (by first | exact Nat.le_refl _ | with_reducible exact HB.out.size | omega | (simp; done) | (simp; omega) | (have := HB.out.size; simp at *; omega)) _)⟩
end Go.Proofs.Ytjmlefcmhjodeaa.others

