/- Merged texts: V6, V7, V8. -/
import Derived.Test.YtnibkipepmakgaaB3
import Derived.Test.YtnibkipepmakgaaKr
import Derived.Test.YtnibkipepmakgaaZk
import Derived.Test.YtnibkipepmakgaaZm
import Derived.Test.YtnibkipepmakgaaZp
import Derived.Test.YtnibkipepmakgaaIx
import Derived.IntWalk
import Derived.BigQuiet
import Derived.Deep.DeepCutAuto
/- The law on lines of a hand: what it draws, its mathematics. -/
namespace Go.Proofs.Ytnibkipepmakgaa.parting
open Go.RowKit
open cards draw
set_option linter.unusedVariables false

theorem bigV (p : Option Addr) (n c : Nat) (w : World) (b : Bool) (h : decide (65536 < (n : Int)) = b) :
    Calls Try.prog 4 #[.slice p n c] w fun e w' => e = .returned (.bool b) ∧ w = w' := by
  go_enter Try.func4, Try.ntmps4
  go_wp2_with fail
  go_ret
  exact ⟨rfl, rfl⟩
theorem least_ (a b : Int) (w : World) : Calls Try.prog 20 #[.int .i64 a, .int .i64 b] w fun e w' => e = .returned (.int .i64 (if a < b then a else b)) ∧ w = w' := by
  by_cases h : a < b
  · have HT := Lib.hid (show a = if a < b then a else b by rw [if_pos h])
    go_enter Try.func20, Try.ntmps20
    go_wp2
    go_ret
    first | exact ⟨rfl, rfl⟩ | exact ⟨ret_int HT.out, rfl⟩ | (clear HT; simp_all)
  · have HT := Lib.hid (show b = if a < b then a else b by rw [if_neg h])
    go_enter Try.func20, Try.ntmps20
    go_wp2
    go_ret
    first | exact ⟨rfl, rfl⟩ | exact ⟨ret_int HT.out, rfl⟩ | (clear HT; simp_all)
theorem most_ (a b : Int) (w : World) : Calls Try.prog 19 #[.int .i64 a, .int .i64 b] w fun e w' => e = .returned (.int .i64 (if b < a then a else b)) ∧ w = w' := by
  by_cases h : b < a
  · have HT := Lib.hid (show a = if b < a then a else b by rw [if_pos h])
    go_enter Try.func19, Try.ntmps19
    go_wp2
    go_ret
    first | exact ⟨rfl, rfl⟩ | exact ⟨ret_int HT.out, rfl⟩ | (clear HT; simp_all)
  · have HT := Lib.hid (show b = if b < a then a else b by rw [if_neg h])
    go_enter Try.func19, Try.ntmps19
    go_wp2
    go_ret
    first | exact ⟨rfl, rfl⟩ | exact ⟨ret_int HT.out, rfl⟩ | (clear HT; simp_all)
theorem own_by {w w1 : World} {B g : Nat} {v : Value} {l : List Cd} (h : cards.Own w B v l) (G : w.grownBy w1 (some g)) (hg : g < B) : cards.Own w1 B v l :=
  World.ownsRow.kept h G (by
    cases hv : v.ownBlock with
    | none => exact .inl rfl
    | some r => exact .inr (fun e => by have := (World.ownsRow.lt h r hv).1; injection e with e; omega))
set_option maxRecDepth 100000 in
set_option maxHeartbeats 4000000 in
theorem draw_la (p : Option Addr) (n c : Nat) (l : List Int) (w : World) (hm : n ≤ 1000000000) (hr : Rd w p (bys l)) (hl : l.length = n) (hy : isByte l) :
    Calls Try.prog 5 #[.slice p n c] w fun e w' => ∃ (v : Value) (L : List Cd) (i : Int), e = .returned (.tuple #[v, .int .i64 i]) ∧ cards.Own w' w.heap.size v L ∧ L.length ≤ 29 ∧ Below w.heap.size w w' := by
  have HC : Hid (Cur (w.alloc (Cv.obj ⟨.slice p n c, 0, 0⟩)) w.heap.size p n c l 0) := Lib.hid (Cur.new rfl hr hl hy)
  have HB : Hid (Below w.heap.size w (w.alloc (Cv.obj ⟨.slice p n c, 0, 0⟩))) := Lib.hid ((Below.refl _ _).alloc (Nat.le_refl _) _)
  clear hr hl hy
  go_enter Try.func5, Try.ntmps5
  go_wp2_with fail
  refine (dense_ w.heap.size p n c l 0 _ (by omega) hm HC.out).mono ?_
  rintro e w1 ⟨v, L, rfl, hO, hL, -, C, G⟩
  have HC := Lib.hid C
  have HB := Lib.hid (Below.grown HB.out G HB.out.size (fun k hk => by injection hk with hk; omega))
  have HO : Hid (cards.Own w1 (w.heap.size + 1) v L) := Lib.hid (by have h := hO.own; rw [World.size_alloc] at h; exact h)
  have HL := Lib.hid hL
  obtain ⟨pv, cv, rfl, -⟩ := hO.own.form
  obtain ⟨m, hm2⟩ : ∃ m, L.length = m := ⟨_, rfl⟩
  have HLm := Lib.hid hm2
  rw [hm2] at HL HO ⊢
  have hm3 := HL.out
  clear C G hO hL hm2
  go_wp2_with fail
  refine (least_ _ _ _).mono ?_
  rintro e w' ⟨rfl, rfl⟩
  obtain ⟨k1, hk1, hk2⟩ : ∃ k1 : Int, (if (m : Int) < 27 then (m : Int) else 27) = k1 ∧ k1 ≤ 27 := ⟨_, rfl, by split <;> omega⟩
  rw [hk1]
  clear hk1
  go_wp2_with fail
  refine (most_ _ _ _).mono ?_
  rintro e w' ⟨rfl, rfl⟩
  obtain ⟨k2, hk3, hk4, hk5⟩ : ∃ k2 : Int, (if k1 < 1 then 1 else k1) = k2 ∧ k2 ≤ 27 ∧ 1 ≤ k2 := ⟨_, rfl, by split <;> omega, by split <;> omega⟩
  rw [hk3]
  clear hk3
  go_wp2_with fail
  refine (pick_ k2 w.heap.size p n c l 300 _ (by omega) hm (by omega) (by omega) HC.out).mono ?_
  rintro e w2 ⟨r1, rfl, b0, b1, C, G⟩
  have HC := Lib.hid C
  have HB := Lib.hid (Below.grown HB.out G HB.out.size (fun k hk => by injection hk with hk; omega))
  have HO := Lib.hid (own_by HO.out G (by omega))
  clear C G
  go_wp2_with fail
  refine (pick_ 24 w.heap.size p n c l 302 _ (by omega) hm (by omega) (by omega) HC.out).mono ?_
  rintro e w3 ⟨r2, rfl, d0, d1, C, G⟩
  have HB := Lib.hid (Below.grown HB.out G HB.out.size (fun k hk => by injection hk with hk; omega))
  have HO := Lib.hid (own_by HO.out G (by omega))
  clear C G
  go_wp2_with fail
  go_ret2
  exact ⟨_, L, _, rfl, Own.base HO.out (by omega), by rw [HLm.out]; exact HL.out, HB.out⟩
/-- What the law asks of lines. -/
theorem sum_three {l : List Cd} {n : Nat} (hn : l.length = n) (hs : sorted l) (hok : l.all Cd.ok = true) : ∀ i, i ≤ (allL l n).length → sm n (fun p => cnt ((allL l n).take i) (p : Int)) = 3 * i
  | 0, _ => by
    have : (fun p : Nat => cnt ((allL l n).take 0) (p : Int)) = fun _ => 0 := by funext p; simp [cnt]
    rw [this, sm_zero]
  | i + 1, h => by
    have ih := sum_three hn hs hok i (by omega)
    have hx : (allL l n)[i]? = some (allL l n)[i] := List.getElem?_eq_getElem (by omega)
    obtain ⟨a, b, q, h1, h2, h3, -, h5⟩ := (mem_lines hn hs hok).1 (List.mem_of_getElem? hx)
    have ht : (allL l n).take (i + 1) = (allL l n).take i ++ [⟨(a : Int), (b : Int), (q : Int)⟩] := by rw [List.take_add_one, hx, ← h5]; rfl
    have e : (fun p : Nat => cnt ((allL l n).take (i + 1)) (p : Int)) = fun p : Nat => cnt ((allL l n).take i) (p : Int) + (if inL ⟨(a : Int), (b : Int), (q : Int)⟩ (p : Int) = true then (fun _ => 1) p else 0) := by
      funext p
      rw [ht, cnt_snoc]
      rfl
    rw [e, sm_add, ih, sm_three (fun _ => 1) h1 h2 h3]
    omega
theorem wf_lines {l : List Cd} {n : Nat} (hn : l.length = n) (h29 : n ≤ 1000) (hs : sorted l) (hok : l.all Cd.ok = true) : ∀ x ∈ allL l n, wf3 x := fun x hx => by
  obtain ⟨a, b, q, h1, h2, h3, -, rfl⟩ := (mem_lines hn hs hok).1 hx
  exact ⟨wf_small (n := (a : Int)) (by omega) (by omega), wf_small (n := (b : Int)) (by omega) (by omega), wf_small (n := (q : Int)) (by omega) (by omega)⟩
theorem wf_la {l : List Cd} {i : Int} (h : l.length ≤ 1000) : ∀ x ∈ (laR l i).1, wf3 x := by
  unfold laR
  split
  · rename_i h2
    have hh := handB_true.1 h2.1
    intro x hx
    exact wf_lines rfl h hh.2.2 hh.2.1 x (List.mem_filter.1 hx).1
  · intro x hx; cases hx
set_option maxRecDepth 100000 in
set_option maxHeartbeats 4000000 in
theorem v_ints (l : List Int) (p1 p2 : Option Addr) (n c1 c2 : Nat) (w : World) (hn : l.length = n) (hl : n ≤ 1000000000) (hr1 : Rd w p1 (ints l)) (hr2 : Rd w p2 (ints l)) :
    Calls Try.prog 15 #[.slice p1 n c1, .slice p2 n c2] w fun e w' => e = .returned (.bool true) ∧ Below w.heap.size w w' := by
  have HN := Lib.hid hn
  have H1 := Lib.hid hr1
  have H2 := Lib.hid hr2
  clear hn hr1 hr2
  go_enter Try.func15, Try.ntmps15
  go_wp2_with fail
  go_loopw [5] (fun i wr => ∃ k : Nat, k ≤ n ∧ i = .int .i64 k ∧ Hid (Below w.heap.size w wr)) (fun i _ => n - (intOf i).toNat)
  case atStart => exact ⟨0, Nat.zero_le _, rfl, Below.refl _ _⟩
  case round =>
    obtain ⟨k, hk, rfl, HB⟩ := hrel
    by_cases hlt : k < n
    · obtain ⟨b, o, x, rfl, hb, hx, c0⟩ := (H1.out.below HB.out).int (k := k) (by rw [HN.out]; exact hlt)
      obtain ⟨b2, o2, y, rfl, hb2, hy, d0⟩ := (H2.out.below HB.out).int (k := k) (by rw [HN.out]; exact hlt)
      obtain rfl : x = y := by rw [hx] at hy; injection hy
      have m0 : (0 : Int) ≤ k := by omega
      have m1 : (k : Int) < n := by omega
      clear hx hy
      go_wp2_with fail
      try (go_quiet (fail))
      try (go_wp2_with fail)
      go_roundw
      case rel => exact ⟨k + 1, by omega, by go_num, by first | exact HB | exact Lib.hid (HB.out.drew) | exact Lib.hid (bdN HB.out _)⟩
      case measure => simp [intOf]; omega
    · obtain rfl : k = n := by omega
      go_wp2_with fail
      go_ret
      exact ⟨rfl, HB.out⟩
end Go.Proofs.Ytnibkipepmakgaa.parting

/- The law on lines of a hand: its walk. -/
namespace Go.Proofs.Ytnibkipepmakgaa.parting
open Go.RowKit
open cards draw
set_option linter.unusedVariables false

theorem lc_ok (L : List Cd) : (lcR L).2 = handB L := by unfold lcR; split <;> simp_all
theorem op_ok (L : List Cd) : (opnR L).2 = handB L := by unfold opnR; split <;> simp_all
theorem cc_ok (L : List Cd) : (ccR L).2 = handB L := by unfold ccR; split <;> simp_all
theorem lin_ok (L : List Cd) : (linR L).2 = handB L := by unfold linR; split <;> simp_all
theorem la_ok {L : List Cd} {i : Int} (h : (laR L i).2 = true) : handB L = true ∧ ∃ k : Nat, k < L.length ∧ i = (k : Int) ∧ (lcR L).1[k]? = some (((laR L i).1.length : Nat) : Int) := by
  unfold laR at h ⊢
  split at h
  · rename_i h2
    rw [if_pos h2]
    refine ⟨h2.1, i.toNat, by omega, by omega, ?_⟩
    unfold lcR
    rw [if_pos h2.1]
    have e : ((i.toNat : Nat) : Int) = i := by omega
    rw [cnts_at _ (show i.toNat < L.length by omega)]
    rw [e]
    unfold withP
    rw [cnt_filter]
  · cases h
/-- The sums over all places. -/
theorem law_sums {L : List Cd} {n : Nat} (hn : L.length = n) (h : handB L = true) : (lcR L).1 = cnts (allL L n) n ∧ (linR L).1 = allL L n ∧ sm n (fun p => cnt (allL L n) (p : Int)) = 3 * (allL L n).length ∧
    (ccR L).1 = ((sm n (fun p => C2 (cnt (allL L n) (p : Int))) : Nat) : Int) ∧ 2 * (3 * (((allL L n).length : Nat) : Int) + (opnR L).1) = (n : Int) * ((n : Int) - 1) := by
  have hh := handB_true.1 h
  have h1 := sum_three hn hh.2.2 hh.2.1 _ (Nat.le_refl _)
  have h2 := cross_sum hn hh.2.2 hh.2.1 _ (Nat.le_refl _)
  have h3 := open_lines hn hh.2.2 hh.2.1
  rw [List.take_length] at h1 h2
  subst hn
  refine ⟨by unfold lcR; rw [if_pos h], by unfold linR; rw [if_pos h], h1, by unfold ccR; rw [if_pos h, h2], ?_⟩
  unfold opnR
  rw [if_pos h]
  have h4 : ((2 * opA L L.length + 6 * (allL L L.length).length : Nat) : Int) = ((L.length * (L.length - 1) : Nat) : Int) := by rw [h3]
  have h5 : ((L.length * (L.length - 1) : Nat) : Int) = (L.length : Int) * ((L.length : Int) - 1) := by
    cases e : L.length with
    | zero => simp
    | succ m => push_cast; simp
  rw [h5] at h4
  rw [← h4]
  push_cast
  omega
theorem cnt_small {L : List Cd} {n : Nat} (hn : L.length = n) (h29 : n ≤ 29) (p : Int) : cnt (allL L n) p ≤ 30000 := by
  have h1 := cnt_le (allL L n) p
  have h2 := allL_len L n
  rw [hn] at h2
  have : n * n ≤ 29 * 29 := Nat.mul_le_mul h29 h29
  omega
end Go.Proofs.Ytnibkipepmakgaa.parting

/- The law on lines of a hand: its walk. -/
namespace Go.Proofs.Ytnibkipepmakgaa.parting
open Go.RowKit
open cards draw
set_option linter.unusedVariables false

set_option maxRecDepth 100000 in
set_option maxHeartbeats 16000000 in
theorem law_la (p : Option Addr) (n c : Nat) (l : List Int) (w : World) (hs : n ≤ 65536) (hr : Rd w p (bys l)) (hl : l.length = n) (hy : isByte l) :
    Calls Try.prog 3 #[.slice p n c] w fun e w' => e = .returned (.bool true) ∧ Below w.heap.size w w' := by
  have HD := Lib.hid (fun w h => draw_la p n c l w (by omega) h hl hy)
  have HV := Lib.hid (bigV p n c w false (decide_eq_false (by omega)))
  have HR := Lib.hid hr
  have HB := Lib.hid (Below.refl w.heap.size w)
  clear hr hl hy
  go_enter Try.func3, Try.ntmps3
  go_wp2_with fail
  refine (HV.out).mono ?_
  rintro e w0 ⟨rfl, rfl⟩
  go_wp2_with fail
  refine ((HD.out _ HR.out)).mono ?_
  rintro e wa ⟨v, L, i, rfl, hO, hL, b⟩
  have Swa := Lib.hid b.size
  have HB := Lib.hid (chain0 (w := w) (by repeat (first | with_reducible exact Below.refl _ _ | with_reducible exact HB.out | with_reducible apply Below.drew | with_reducible apply bdN | with_reducible refine Below.alloc ?_ (by first | exact Nat.le_refl _ | with_reducible exact HB.out.size | omega | (simp; done) | (simp; omega) | (have := HB.out.size; simp at *; omega)) _ | with_reducible refine Below.setCell ?_ (by first | exact Nat.le_refl _ | with_reducible exact HB.out.size | omega | (simp; done) | (simp; omega) | (have := HB.out.size; simp at *; omega)) _)) b)
  clear b
  obtain ⟨ph, ch, rfl, hch, hrh, -⟩ := hO.form
  obtain ⟨nh, hnh⟩ : ∃ nh, L.length = nh := ⟨_, rfl⟩
  have HN := Lib.hid hnh
  have HRh := Lib.hid hrh
  rw [hnh] at hL hch ⊢
  have HI1 := Lib.hid (fun w h => impl_la i L ph nh ch w hnh (by omega) h)
  have HS1 := Lib.hid (fun w h => spec_la i L ph nh ch w hnh (by omega) h)
  have HI2 := Lib.hid (fun w h => impl_lc L ph nh ch w hnh (by omega) h)
  have HS2 := Lib.hid (fun w h => spec_lc L ph nh ch w hnh (by omega) h)
  have HI3 := Lib.hid (fun w h => impl_op L ph nh ch w hnh (by omega) h hch)
  have HS3 := Lib.hid (fun w h => spec_op L ph nh ch w hnh (by omega) h hch)
  have HI4 := Lib.hid (fun w h => impl_cc L ph nh ch w hnh (by omega) h hch)
  have HS4 := Lib.hid (fun w h => spec_cc L ph nh ch w hnh (by omega) h hch)
  have HI5 := Lib.hid (fun w h => impl_lin L ph nh ch w hnh (by omega) h)
  have HWf := Lib.hid (wf_la (l := L) (i := i) (by omega))
  have HOk := Lib.hid (fun h => la_ok (L := L) (i := i) h)
  have HSu := Lib.hid (fun h => law_sums hnh h)
  have HCs := Lib.hid (fun p => cnt_small hnh hL p)
  have HLa := Lib.hid (laR_len L i)
  have HLc := Lib.hid (lcR_len L)
  rw [lc_ok] at HI2 HS2
  rw [op_ok] at HI3 HS3
  rw [cc_ok] at HI4 HS4
  rw [lin_ok] at HI5
  obtain ⟨hb, hhb⟩ : ∃ hb, handB L = hb := ⟨_, rfl⟩
  rw [hhb] at HI2 HS2 HI3 HS3 HI4 HS4 HI5 HOk HSu
  obtain ⟨A, hA⟩ : ∃ A, (laR L i).1 = A := ⟨_, rfl⟩
  obtain ⟨ok, hok⟩ : ∃ ok, (laR L i).2 = ok := ⟨_, rfl⟩
  rw [hA] at HI1 HS1 HWf HOk HLa
  rw [hok] at HI1 HS1 HOk
  obtain ⟨CN, hCN⟩ : ∃ CN, (lcR L).1 = CN := ⟨_, rfl⟩
  rw [hCN] at HI2 HS2 HOk HSu HLc
  obtain ⟨op, hop⟩ : ∃ op, (opnR L).1 = op := ⟨_, rfl⟩
  rw [hop] at HI3 HS3 HSu
  obtain ⟨cr, hcr⟩ : ∃ cr, (ccR L).1 = cr := ⟨_, rfl⟩
  rw [hcr] at HI4 HS4 HSu
  obtain ⟨LN, hLN⟩ : ∃ LN, (linR L).1 = LN := ⟨_, rfl⟩
  rw [hLN] at HI5 HSu
  obtain ⟨na, hna⟩ : ∃ na, A.length = na := ⟨_, rfl⟩
  have HNa := Lib.hid hna
  obtain ⟨nc, hnc⟩ : ∃ nc, CN.length = nc := ⟨_, rfl⟩
  have HNc := Lib.hid hnc
  rw [hna] at HOk HLa
  rw [hnc] at HLc
  clear hO hrh hhb hA hok hCN hop hcr hLN hna hnc hnh hch
  go_wp2_with fail
  refine ((HI1.out _ HRh.out)).mono ?_
  rintro e wb ⟨va, rfl, hu, b⟩
  have Swb := Lib.hid b.size
  have HB := Lib.hid (chain0 (w := w) (by repeat (first | with_reducible exact Below.refl _ _ | with_reducible exact HB.out | with_reducible apply Below.drew | with_reducible apply bdN | with_reducible refine Below.alloc ?_ (by first | exact Nat.le_refl _ | with_reducible exact HB.out.size | omega | (simp; done) | (simp; omega) | (have := HB.out.size; simp at *; omega)) _ | with_reducible refine Below.setCell ?_ (by first | exact Nat.le_refl _ | with_reducible exact HB.out.size | omega | (simp; done) | (simp; omega) | (have := HB.out.size; simp at *; omega)) _)) b)
  have HRh := Lib.hid (Rd.below (by repeat (first | with_reducible exact HRh.out | with_reducible apply Rd.drewN | with_reducible apply Rd.drew | with_reducible apply Rd.alloc)) b)
  clear b
  obtain ⟨pa, ca, rfl, -, hra, -⟩ := hu.form
  have HRa := Lib.hid hra
  rw [HNa.out]
  clear hu hra
  go_wp2_with fail
  refine ((HS1.out _ HRh.out)).mono ?_
  rintro e wc0 ⟨vb, rfl, hu, b⟩
  have Swc0 := Lib.hid b.size
  have HB := Lib.hid (chain0 (w := w) (by repeat (first | with_reducible exact Below.refl _ _ | with_reducible exact HB.out | with_reducible apply Below.drew | with_reducible apply bdN | with_reducible refine Below.alloc ?_ (by first | exact Nat.le_refl _ | with_reducible exact HB.out.size | omega | (simp; done) | (simp; omega) | (have := HB.out.size; simp at *; omega)) _ | with_reducible refine Below.setCell ?_ (by first | exact Nat.le_refl _ | with_reducible exact HB.out.size | omega | (simp; done) | (simp; omega) | (have := HB.out.size; simp at *; omega)) _)) b)
  have HRh := Lib.hid (Rd.below (by repeat (first | with_reducible exact HRh.out | with_reducible apply Rd.drewN | with_reducible apply Rd.drew | with_reducible apply Rd.alloc)) b)
  have HRa := Lib.hid (Rd.below (by repeat (first | with_reducible exact HRa.out | with_reducible apply Rd.drewN | with_reducible apply Rd.drew | with_reducible apply Rd.alloc)) b)
  clear b
  obtain ⟨pb, cb, rfl, -, hrb, -⟩ := hu.form
  have HRb := Lib.hid hrb
  rw [HNa.out]
  clear hu hrb
  go_wp2_with fail
  refine ((HI2.out _ HRh.out)).mono ?_
  rintro e wd ⟨vc, rfl, hu, b⟩
  have Swd := Lib.hid b.size
  have HB := Lib.hid (chain0 (w := w) (by repeat (first | with_reducible exact Below.refl _ _ | with_reducible exact HB.out | with_reducible apply Below.drew | with_reducible apply bdN | with_reducible refine Below.alloc ?_ (by first | exact Nat.le_refl _ | with_reducible exact HB.out.size | omega | (simp; done) | (simp; omega) | (have := HB.out.size; simp at *; omega)) _ | with_reducible refine Below.setCell ?_ (by first | exact Nat.le_refl _ | with_reducible exact HB.out.size | omega | (simp; done) | (simp; omega) | (have := HB.out.size; simp at *; omega)) _)) b)
  have HRh := Lib.hid (Rd.below (by repeat (first | with_reducible exact HRh.out | with_reducible apply Rd.drewN | with_reducible apply Rd.drew | with_reducible apply Rd.alloc)) b)
  have HRa := Lib.hid (Rd.below (by repeat (first | with_reducible exact HRa.out | with_reducible apply Rd.drewN | with_reducible apply Rd.drew | with_reducible apply Rd.alloc)) b)
  have HRb := Lib.hid (Rd.below (by repeat (first | with_reducible exact HRb.out | with_reducible apply Rd.drewN | with_reducible apply Rd.drew | with_reducible apply Rd.alloc)) b)
  clear b
  obtain ⟨pc, cc, rfl, -, hrc, -⟩ := hu.form
  have HRc := Lib.hid hrc
  rw [HNc.out]
  clear hu hrc
  go_wp2_with fail
  refine ((HS2.out _ HRh.out)).mono ?_
  rintro e we ⟨vd, rfl, hu, b⟩
  have Swe := Lib.hid b.size
  have HB := Lib.hid (chain0 (w := w) (by repeat (first | with_reducible exact Below.refl _ _ | with_reducible exact HB.out | with_reducible apply Below.drew | with_reducible apply bdN | with_reducible refine Below.alloc ?_ (by first | exact Nat.le_refl _ | with_reducible exact HB.out.size | omega | (simp; done) | (simp; omega) | (have := HB.out.size; simp at *; omega)) _ | with_reducible refine Below.setCell ?_ (by first | exact Nat.le_refl _ | with_reducible exact HB.out.size | omega | (simp; done) | (simp; omega) | (have := HB.out.size; simp at *; omega)) _)) b)
  have HRh := Lib.hid (Rd.below (by repeat (first | with_reducible exact HRh.out | with_reducible apply Rd.drewN | with_reducible apply Rd.drew | with_reducible apply Rd.alloc)) b)
  have HRa := Lib.hid (Rd.below (by repeat (first | with_reducible exact HRa.out | with_reducible apply Rd.drewN | with_reducible apply Rd.drew | with_reducible apply Rd.alloc)) b)
  have HRb := Lib.hid (Rd.below (by repeat (first | with_reducible exact HRb.out | with_reducible apply Rd.drewN | with_reducible apply Rd.drew | with_reducible apply Rd.alloc)) b)
  have HRc := Lib.hid (Rd.below (by repeat (first | with_reducible exact HRc.out | with_reducible apply Rd.drewN | with_reducible apply Rd.drew | with_reducible apply Rd.alloc)) b)
  clear b
  obtain ⟨pd, cd, rfl, -, hrd, -⟩ := hu.form
  have HRd := Lib.hid hrd
  rw [HNc.out]
  clear hu hrd
  go_wp2_with fail
  refine ((HI3.out _ HRh.out)).mono ?_
  rintro e wf ⟨rfl, b⟩
  have Swf := Lib.hid b.size
  have HB := Lib.hid (chain0 (w := w) (by repeat (first | with_reducible exact Below.refl _ _ | with_reducible exact HB.out | with_reducible apply Below.drew | with_reducible apply bdN | with_reducible refine Below.alloc ?_ (by first | exact Nat.le_refl _ | with_reducible exact HB.out.size | omega | (simp; done) | (simp; omega) | (have := HB.out.size; simp at *; omega)) _ | with_reducible refine Below.setCell ?_ (by first | exact Nat.le_refl _ | with_reducible exact HB.out.size | omega | (simp; done) | (simp; omega) | (have := HB.out.size; simp at *; omega)) _)) b)
  have HRh := Lib.hid (Rd.below (by repeat (first | with_reducible exact HRh.out | with_reducible apply Rd.drewN | with_reducible apply Rd.drew | with_reducible apply Rd.alloc)) b)
  have HRa := Lib.hid (Rd.below (by repeat (first | with_reducible exact HRa.out | with_reducible apply Rd.drewN | with_reducible apply Rd.drew | with_reducible apply Rd.alloc)) b)
  have HRb := Lib.hid (Rd.below (by repeat (first | with_reducible exact HRb.out | with_reducible apply Rd.drewN | with_reducible apply Rd.drew | with_reducible apply Rd.alloc)) b)
  have HRc := Lib.hid (Rd.below (by repeat (first | with_reducible exact HRc.out | with_reducible apply Rd.drewN | with_reducible apply Rd.drew | with_reducible apply Rd.alloc)) b)
  have HRd := Lib.hid (Rd.below (by repeat (first | with_reducible exact HRd.out | with_reducible apply Rd.drewN | with_reducible apply Rd.drew | with_reducible apply Rd.alloc)) b)
  clear b
  go_wp2_with fail
  refine ((HS3.out _ HRh.out)).mono ?_
  rintro e wg ⟨rfl, b⟩
  have Swg := Lib.hid b.size
  have HB := Lib.hid (chain0 (w := w) (by repeat (first | with_reducible exact Below.refl _ _ | with_reducible exact HB.out | with_reducible apply Below.drew | with_reducible apply bdN | with_reducible refine Below.alloc ?_ (by first | exact Nat.le_refl _ | with_reducible exact HB.out.size | omega | (simp; done) | (simp; omega) | (have := HB.out.size; simp at *; omega)) _ | with_reducible refine Below.setCell ?_ (by first | exact Nat.le_refl _ | with_reducible exact HB.out.size | omega | (simp; done) | (simp; omega) | (have := HB.out.size; simp at *; omega)) _)) b)
  have HRh := Lib.hid (Rd.below (by repeat (first | with_reducible exact HRh.out | with_reducible apply Rd.drewN | with_reducible apply Rd.drew | with_reducible apply Rd.alloc)) b)
  have HRa := Lib.hid (Rd.below (by repeat (first | with_reducible exact HRa.out | with_reducible apply Rd.drewN | with_reducible apply Rd.drew | with_reducible apply Rd.alloc)) b)
  have HRb := Lib.hid (Rd.below (by repeat (first | with_reducible exact HRb.out | with_reducible apply Rd.drewN | with_reducible apply Rd.drew | with_reducible apply Rd.alloc)) b)
  have HRc := Lib.hid (Rd.below (by repeat (first | with_reducible exact HRc.out | with_reducible apply Rd.drewN | with_reducible apply Rd.drew | with_reducible apply Rd.alloc)) b)
  have HRd := Lib.hid (Rd.below (by repeat (first | with_reducible exact HRd.out | with_reducible apply Rd.drewN | with_reducible apply Rd.drew | with_reducible apply Rd.alloc)) b)
  clear b
  go_wp2_with fail
  refine ((HI4.out _ HRh.out)).mono ?_
  rintro e wh ⟨rfl, b⟩
  have Swh := Lib.hid b.size
  have HB := Lib.hid (chain0 (w := w) (by repeat (first | with_reducible exact Below.refl _ _ | with_reducible exact HB.out | with_reducible apply Below.drew | with_reducible apply bdN | with_reducible refine Below.alloc ?_ (by first | exact Nat.le_refl _ | with_reducible exact HB.out.size | omega | (simp; done) | (simp; omega) | (have := HB.out.size; simp at *; omega)) _ | with_reducible refine Below.setCell ?_ (by first | exact Nat.le_refl _ | with_reducible exact HB.out.size | omega | (simp; done) | (simp; omega) | (have := HB.out.size; simp at *; omega)) _)) b)
  have HRh := Lib.hid (Rd.below (by repeat (first | with_reducible exact HRh.out | with_reducible apply Rd.drewN | with_reducible apply Rd.drew | with_reducible apply Rd.alloc)) b)
  have HRa := Lib.hid (Rd.below (by repeat (first | with_reducible exact HRa.out | with_reducible apply Rd.drewN | with_reducible apply Rd.drew | with_reducible apply Rd.alloc)) b)
  have HRb := Lib.hid (Rd.below (by repeat (first | with_reducible exact HRb.out | with_reducible apply Rd.drewN | with_reducible apply Rd.drew | with_reducible apply Rd.alloc)) b)
  have HRc := Lib.hid (Rd.below (by repeat (first | with_reducible exact HRc.out | with_reducible apply Rd.drewN | with_reducible apply Rd.drew | with_reducible apply Rd.alloc)) b)
  have HRd := Lib.hid (Rd.below (by repeat (first | with_reducible exact HRd.out | with_reducible apply Rd.drewN | with_reducible apply Rd.drew | with_reducible apply Rd.alloc)) b)
  clear b
  go_wp2_with fail
  refine ((HS4.out _ HRh.out)).mono ?_
  rintro e wi ⟨rfl, b⟩
  have Swi := Lib.hid b.size
  have HB := Lib.hid (chain0 (w := w) (by repeat (first | with_reducible exact Below.refl _ _ | with_reducible exact HB.out | with_reducible apply Below.drew | with_reducible apply bdN | with_reducible refine Below.alloc ?_ (by first | exact Nat.le_refl _ | with_reducible exact HB.out.size | omega | (simp; done) | (simp; omega) | (have := HB.out.size; simp at *; omega)) _ | with_reducible refine Below.setCell ?_ (by first | exact Nat.le_refl _ | with_reducible exact HB.out.size | omega | (simp; done) | (simp; omega) | (have := HB.out.size; simp at *; omega)) _)) b)
  have HRh := Lib.hid (Rd.below (by repeat (first | with_reducible exact HRh.out | with_reducible apply Rd.drewN | with_reducible apply Rd.drew | with_reducible apply Rd.alloc)) b)
  have HRa := Lib.hid (Rd.below (by repeat (first | with_reducible exact HRa.out | with_reducible apply Rd.drewN | with_reducible apply Rd.drew | with_reducible apply Rd.alloc)) b)
  have HRb := Lib.hid (Rd.below (by repeat (first | with_reducible exact HRb.out | with_reducible apply Rd.drewN | with_reducible apply Rd.drew | with_reducible apply Rd.alloc)) b)
  have HRc := Lib.hid (Rd.below (by repeat (first | with_reducible exact HRc.out | with_reducible apply Rd.drewN | with_reducible apply Rd.drew | with_reducible apply Rd.alloc)) b)
  have HRd := Lib.hid (Rd.below (by repeat (first | with_reducible exact HRd.out | with_reducible apply Rd.drewN | with_reducible apply Rd.drew | with_reducible apply Rd.alloc)) b)
  clear b
  go_upto_region 12 with fail
  go_cut [131] (fun s wx => s = .bool false ∧ Hid (Below w.heap.size w wx) ∧ Hid (Rd wx ph (flat L)) ∧ Hid (Rd wx pc (ints CN)))
  case first =>
    have HVl := Lib.hid (fun w h1 h2 => v_lines A pa pb na ca cb w HNa.out (by have := HLa.out; omega) h1 h2 HWf.out)
    have HVi := Lib.hid (fun w h1 h2 => v_ints CN pc pd nc cc cd w HNc.out (by have := HLc.out; omega) h1 h2)
    have hO := HOk.out
    clear HI1 HS1 HI2 HS2 HI3 HS3 HI4 HS4 HI5
    cases ok
    · clear hO
      as_aux_lemma =>
        go_wp2_with fail
        refine ((HVl.out _ HRa.out HRb.out)).mono ?_
        rintro e wx1 ⟨rfl, b⟩
        have Swx1 := Lib.hid b.size
        have HB := Lib.hid (chain0 (w := w) (by repeat (first | with_reducible exact Below.refl _ _ | with_reducible exact HB.out | with_reducible apply Below.drew | with_reducible apply bdN | with_reducible refine Below.alloc ?_ (by first | exact Nat.le_refl _ | with_reducible exact HB.out.size | omega | (simp; done) | (simp; omega) | (have := HB.out.size; simp at *; omega)) _ | with_reducible refine Below.setCell ?_ (by first | exact Nat.le_refl _ | with_reducible exact HB.out.size | omega | (simp; done) | (simp; omega) | (have := HB.out.size; simp at *; omega)) _)) b)
        have HRh := Lib.hid (Rd.below (by repeat (first | with_reducible exact HRh.out | with_reducible apply Rd.drewN | with_reducible apply Rd.drew | with_reducible apply Rd.alloc)) b)
        have HRa := Lib.hid (Rd.below (by repeat (first | with_reducible exact HRa.out | with_reducible apply Rd.drewN | with_reducible apply Rd.drew | with_reducible apply Rd.alloc)) b)
        have HRb := Lib.hid (Rd.below (by repeat (first | with_reducible exact HRb.out | with_reducible apply Rd.drewN | with_reducible apply Rd.drew | with_reducible apply Rd.alloc)) b)
        have HRc := Lib.hid (Rd.below (by repeat (first | with_reducible exact HRc.out | with_reducible apply Rd.drewN | with_reducible apply Rd.drew | with_reducible apply Rd.alloc)) b)
        have HRd := Lib.hid (Rd.below (by repeat (first | with_reducible exact HRd.out | with_reducible apply Rd.drewN | with_reducible apply Rd.drew | with_reducible apply Rd.alloc)) b)
        clear b
        go_wp2_with fail
        refine ((HVi.out _ HRc.out HRd.out)).mono ?_
        rintro e wx2 ⟨rfl, b⟩
        have Swx2 := Lib.hid b.size
        have HB := Lib.hid (chain0 (w := w) (by repeat (first | with_reducible exact Below.refl _ _ | with_reducible exact HB.out | with_reducible apply Below.drew | with_reducible apply bdN | with_reducible refine Below.alloc ?_ (by first | exact Nat.le_refl _ | with_reducible exact HB.out.size | omega | (simp; done) | (simp; omega) | (have := HB.out.size; simp at *; omega)) _ | with_reducible refine Below.setCell ?_ (by first | exact Nat.le_refl _ | with_reducible exact HB.out.size | omega | (simp; done) | (simp; omega) | (have := HB.out.size; simp at *; omega)) _)) b)
        have HRh := Lib.hid (Rd.below (by repeat (first | with_reducible exact HRh.out | with_reducible apply Rd.drewN | with_reducible apply Rd.drew | with_reducible apply Rd.alloc)) b)
        have HRa := Lib.hid (Rd.below (by repeat (first | with_reducible exact HRa.out | with_reducible apply Rd.drewN | with_reducible apply Rd.drew | with_reducible apply Rd.alloc)) b)
        have HRb := Lib.hid (Rd.below (by repeat (first | with_reducible exact HRb.out | with_reducible apply Rd.drewN | with_reducible apply Rd.drew | with_reducible apply Rd.alloc)) b)
        have HRc := Lib.hid (Rd.below (by repeat (first | with_reducible exact HRc.out | with_reducible apply Rd.drewN | with_reducible apply Rd.drew | with_reducible apply Rd.alloc)) b)
        have HRd := Lib.hid (Rd.below (by repeat (first | with_reducible exact HRd.out | with_reducible apply Rd.drewN | with_reducible apply Rd.drew | with_reducible apply Rd.alloc)) b)
        clear b
        go_wp2_with fail
        go_meet
        exact ⟨rfl, HB, HRh, HRc⟩
    · have h := (hO rfl).1
      clear hO
      subst h
      as_aux_lemma =>
        go_wp2_with fail
        refine ((HVl.out _ HRa.out HRb.out)).mono ?_
        rintro e wx1 ⟨rfl, b⟩
        have Swx1 := Lib.hid b.size
        have HB := Lib.hid (chain0 (w := w) (by repeat (first | with_reducible exact Below.refl _ _ | with_reducible exact HB.out | with_reducible apply Below.drew | with_reducible apply bdN | with_reducible refine Below.alloc ?_ (by first | exact Nat.le_refl _ | with_reducible exact HB.out.size | omega | (simp; done) | (simp; omega) | (have := HB.out.size; simp at *; omega)) _ | with_reducible refine Below.setCell ?_ (by first | exact Nat.le_refl _ | with_reducible exact HB.out.size | omega | (simp; done) | (simp; omega) | (have := HB.out.size; simp at *; omega)) _)) b)
        have HRh := Lib.hid (Rd.below (by repeat (first | with_reducible exact HRh.out | with_reducible apply Rd.drewN | with_reducible apply Rd.drew | with_reducible apply Rd.alloc)) b)
        have HRa := Lib.hid (Rd.below (by repeat (first | with_reducible exact HRa.out | with_reducible apply Rd.drewN | with_reducible apply Rd.drew | with_reducible apply Rd.alloc)) b)
        have HRb := Lib.hid (Rd.below (by repeat (first | with_reducible exact HRb.out | with_reducible apply Rd.drewN | with_reducible apply Rd.drew | with_reducible apply Rd.alloc)) b)
        have HRc := Lib.hid (Rd.below (by repeat (first | with_reducible exact HRc.out | with_reducible apply Rd.drewN | with_reducible apply Rd.drew | with_reducible apply Rd.alloc)) b)
        have HRd := Lib.hid (Rd.below (by repeat (first | with_reducible exact HRd.out | with_reducible apply Rd.drewN | with_reducible apply Rd.drew | with_reducible apply Rd.alloc)) b)
        clear b
        go_wp2_with fail
        refine ((HVi.out _ HRc.out HRd.out)).mono ?_
        rintro e wx2 ⟨rfl, b⟩
        have Swx2 := Lib.hid b.size
        have HB := Lib.hid (chain0 (w := w) (by repeat (first | with_reducible exact Below.refl _ _ | with_reducible exact HB.out | with_reducible apply Below.drew | with_reducible apply bdN | with_reducible refine Below.alloc ?_ (by first | exact Nat.le_refl _ | with_reducible exact HB.out.size | omega | (simp; done) | (simp; omega) | (have := HB.out.size; simp at *; omega)) _ | with_reducible refine Below.setCell ?_ (by first | exact Nat.le_refl _ | with_reducible exact HB.out.size | omega | (simp; done) | (simp; omega) | (have := HB.out.size; simp at *; omega)) _)) b)
        have HRh := Lib.hid (Rd.below (by repeat (first | with_reducible exact HRh.out | with_reducible apply Rd.drewN | with_reducible apply Rd.drew | with_reducible apply Rd.alloc)) b)
        have HRa := Lib.hid (Rd.below (by repeat (first | with_reducible exact HRa.out | with_reducible apply Rd.drewN | with_reducible apply Rd.drew | with_reducible apply Rd.alloc)) b)
        have HRb := Lib.hid (Rd.below (by repeat (first | with_reducible exact HRb.out | with_reducible apply Rd.drewN | with_reducible apply Rd.drew | with_reducible apply Rd.alloc)) b)
        have HRc := Lib.hid (Rd.below (by repeat (first | with_reducible exact HRc.out | with_reducible apply Rd.drewN | with_reducible apply Rd.drew | with_reducible apply Rd.alloc)) b)
        have HRd := Lib.hid (Rd.below (by repeat (first | with_reducible exact HRd.out | with_reducible apply Rd.drewN | with_reducible apply Rd.drew | with_reducible apply Rd.alloc)) b)
        clear b
        go_wp2_with fail
        go_meet
        exact ⟨rfl, HB, HRh, HRc⟩
  case rest => as_aux_lemma =>
    clear HB HRh HRc HRa HRb HRd
    obtain ⟨rfl, HB, HRh, HRc⟩ := hcut
    obtain ⟨wj, ew, b⟩ : ∃ wOPN : World, wOPN = wc ∧ Below (wc).heap.size (wc) wOPN := ⟨_, rfl, Below.refl _ _⟩
    rw [← ew]
    clear ew
    have Swj := Lib.hid b.size
    have HB := Lib.hid (chain0 (w := w) (by repeat (first | with_reducible exact Below.refl _ _ | with_reducible exact HB.out | with_reducible apply Below.drew | with_reducible apply bdN | with_reducible refine Below.alloc ?_ (by first | exact Nat.le_refl _ | with_reducible exact HB.out.size | omega | (simp; done) | (simp; omega) | (have := HB.out.size; simp at *; omega)) _ | with_reducible refine Below.setCell ?_ (by first | exact Nat.le_refl _ | with_reducible exact HB.out.size | omega | (simp; done) | (simp; omega) | (have := HB.out.size; simp at *; omega)) _)) b)
    have HRh := Lib.hid (Rd.below (by repeat (first | with_reducible exact HRh.out | with_reducible apply Rd.drewN | with_reducible apply Rd.drew | with_reducible apply Rd.alloc)) b)
    have HRc := Lib.hid (Rd.below (by repeat (first | with_reducible exact HRc.out | with_reducible apply Rd.drewN | with_reducible apply Rd.drew | with_reducible apply Rd.alloc)) b)
    clear b
    go_upto_region 14 with fail
    go_cut [141] (fun s wx => s = .bool false ∧ wx = wj)
    case first =>
      have hO := HOk.out
      clear HI1 HS1 HI2 HS2 HI3 HS3 HI4 HS4 HI5
      cases ok
      · clear hO
        as_aux_lemma =>
          go_wp2_with fail
          go_meet
          exact ⟨rfl, rfl⟩
      · obtain ⟨h1, k, -, rfl, hc⟩ := hO rfl
        subst h1
        have hkl := (List.getElem?_eq_some_iff.1 hc).1
        obtain ⟨bc, oc, x, rfl, -, hx, c0⟩ := HRc.out.int (k := k) hkl
        rw [hc] at hx
        injection hx with hx
        rw [← hx] at c0
        have m0 : (0 : Int) ≤ (k : Int) := by omega
        have m1 : (k : Int) < (nc : Int) := by have := HNc.out; omega
        clear hc hx hkl
        as_aux_lemma =>
          go_wp2_with fail
          go_meet
          exact ⟨rfl, rfl⟩
    case rest => as_aux_lemma =>
      obtain ⟨rfl, ew⟩ := hcut
      rw [ew]
      clear ew
      cases hb
      · as_aux_lemma =>
          go_wp2_with fail
          go_ret
          exact ⟨rfl, by repeat (first | with_reducible exact Below.refl _ _ | with_reducible exact HB.out | with_reducible apply Below.drew | with_reducible apply bdN | with_reducible refine Below.alloc ?_ (by first | exact Nat.le_refl _ | with_reducible exact HB.out.size | omega | (simp; done) | (simp; omega) | (have := HB.out.size; simp at *; omega)) _ | with_reducible refine Below.setCell ?_ (by first | exact Nat.le_refl _ | with_reducible exact HB.out.size | omega | (simp; done) | (simp; omega) | (have := HB.out.size; simp at *; omega)) _)⟩
      · obtain ⟨e1, e2, e3, e4, e5⟩ := HSu.out rfl
        rw [← e2] at e3 e5
        have h0 : nc = nh := by rw [← HNc.out, e1, cnts_len]
        obtain ⟨f, hf⟩ : ∃ f : Nat → Nat, (fun p : Nat => cnt LN (p : Int)) = f := ⟨_, rfl⟩
        have HFs : Hid (∀ p, f p ≤ 30000) := Lib.hid (fun p => by rw [← hf, e2]; exact HCs.out p)
        have HFa : Hid (∀ k, k < nh → CN[k]? = some ((f k : Nat) : Int)) := Lib.hid (fun k hk => by rw [e1, cnts_at _ hk, ← hf, e2])
        have e4' : cr = ((sm nh (fun p => C2 (f p)) : Nat) : Int) := by rw [e4, ← hf, e2]
        rw [hf] at e3
        obtain ⟨m, hm⟩ : ∃ m, LN.length = m := ⟨_, rfl⟩
        rw [hm] at e3 e5
        have HM := Lib.hid hm
        have HE3 := Lib.hid e3
        have HE4 := Lib.hid e4'
        have hQ : ((nh * (nh - 1) : Nat) : Int) = (nh : Int) * ((nh : Int) - 1) := by
          cases nh with
          | zero => simp
          | succ q => push_cast; simp
        have hQ2 : nh * (nh - 1) ≤ 29 * 29 := Nat.mul_le_mul hL (by omega)
        have hm2 : m ≤ 300000 := by
          have h1 := sm_le f 30000 (fun p => HFs.out p) nh
          have h2 : nh * 30000 ≤ 29 * 30000 := Nat.mul_le_mul hL (Nat.le_refl _)
          omega
        rw [← hQ] at e5
        have HE5 : Hid ((2 * (3 * (m : Int) + op)) = (nh : Int) * ((nh : Int) - 1)) := Lib.hid (by rw [← hQ]; exact e5)
        have hop : -900000 ≤ op ∧ op ≤ 900000 := by omega
        have hnn : 0 ≤ (nh : Int) * ((nh : Int) - 1) ∧ (nh : Int) * ((nh : Int) - 1) ≤ 900 := by rw [← hQ]; omega
        subst h0
        clear e1 e2 e3 e4 e4' e5 hf hm hQ hQ2
        as_aux_lemma =>
          go_wp2_with fail
          refine ((HI5.out _ HRh.out)).mono ?_
          rintro e wk ⟨vl, rfl, hu, b⟩
          have Swk := Lib.hid b.size
          have HB := Lib.hid (chain0 (w := w) (by repeat (first | with_reducible exact Below.refl _ _ | with_reducible exact HB.out | with_reducible apply Below.drew | with_reducible apply bdN | with_reducible refine Below.alloc ?_ (by first | exact Nat.le_refl _ | with_reducible exact HB.out.size | omega | (simp; done) | (simp; omega) | (have := HB.out.size; simp at *; omega)) _ | with_reducible refine Below.setCell ?_ (by first | exact Nat.le_refl _ | with_reducible exact HB.out.size | omega | (simp; done) | (simp; omega) | (have := HB.out.size; simp at *; omega)) _)) b)
          have HRh := Lib.hid (Rd.below (by repeat (first | with_reducible exact HRh.out | with_reducible apply Rd.drewN | with_reducible apply Rd.drew | with_reducible apply Rd.alloc)) b)
          have HRc := Lib.hid (Rd.below (by repeat (first | with_reducible exact HRc.out | with_reducible apply Rd.drewN | with_reducible apply Rd.drew | with_reducible apply Rd.alloc)) b)
          clear b
          obtain ⟨pl, cl, rfl, -, -, -⟩ := hu.form
          rw [HM.out]
          clear hu
          have HBk := HB
          go_wp2_with fail
          go_loopw [23, 24, 25] (fun sv pv iv wr => ∃ k : Nat, k ≤ nc ∧ iv = .int .i64 k ∧ sv = .int .i64 (sm k f : Nat) ∧ pv = .int .i64 (sm k (fun p => C2 (f p)) : Nat) ∧ Hid (Below wk.heap.size wk wr)) (fun _ _ iv _ => nc - (intOf iv).toNat)
          case atStart => exact ⟨0, Nat.zero_le _, rfl, rfl, rfl, Lib.hid (Below.refl _ _)⟩
          case round =>
            obtain ⟨k, hk, rfl, rfl, rfl, HBl⟩ := hrel
            have m0 : (0 : Int) ≤ (k : Int) := by omega
            by_cases hlt : k < nc
            · have m1 : (k : Int) < (nc : Int) := by omega
              have HRl := Lib.hid (HRc.out.below HBl.out)
              obtain ⟨bc, oc, x, rfl, -, hx, c0⟩ := HRl.out.int (k := k) (by rw [HNc.out]; exact hlt)
              rw [HFa.out k hlt] at hx
              injection hx with hx
              rw [← hx] at c0
              clear hx
              have hf1 := HFs.out k
              have hs1 := sm_le f 30000 (fun p => HFs.out p) k
              have hs2 := sm_le (fun p => C2 (f p)) 900000000 (fun p => Nat.le_trans (C2_le (HFs.out p)) (by omega)) k
              have hC := C2_two (f k)
              have HSa : Hid (sm (k + 1) f = sm k f + f k) := Lib.hid rfl
              have HSb : Hid (sm (k + 1) (fun p => C2 (f p)) = sm k (fun p => C2 (f p)) + C2 (f k)) := Lib.hid rfl
              obtain ⟨S, hS⟩ : ∃ S, sm k f = S := ⟨_, rfl⟩
              obtain ⟨T, hT⟩ : ∃ T, sm k (fun p => C2 (f p)) = T := ⟨_, rfl⟩
              obtain ⟨fk, hfk⟩ : ∃ fk, f k = fk := ⟨_, rfl⟩
              obtain ⟨ck, hck⟩ : ∃ ck, C2 fk = ck := ⟨_, rfl⟩
              rw [hS] at hs1 HSa ⊢
              rw [hT] at hs2 HSb ⊢
              rw [hfk] at c0 hf1 hC HSa HSb
              rw [hck] at hC HSb
              clear hS hT hfk hck
              have hS2 : S ≤ 900000 := by have : k * 30000 ≤ 29 * 30000 := Nat.mul_le_mul (by omega) (Nat.le_refl _); omega
              have hT2 : T ≤ 30000000000 := by have : k * 900000000 ≤ 29 * 900000000 := Nat.mul_le_mul (by omega) (Nat.le_refl _); omega
              have hmu : fk * (fk - 1) ≤ 30000 * 30000 := Nat.mul_le_mul hf1 (by omega)
              have hw1 : IntKind.i64.wrap ((S : Int) + (fk : Int)) = (S : Int) + (fk : Int) := IntWalk.i64_in _ (by omega)
              have hw2 : IntKind.i64.wrap ((fk : Int) - 1) = (fk : Int) - 1 := IntWalk.i64_in _ (by omega)
              have hcast : ((fk * (fk - 1) : Nat) : Int) = (fk : Int) * ((fk : Int) - 1) := by
                cases fk with
                | zero => simp
                | succ q => push_cast; simp
              have hw3 : IntKind.i64.wrap ((fk : Int) * ((fk : Int) - 1)) = (fk : Int) * ((fk : Int) - 1) := by rw [← hcast]; exact IntWalk.i64_in _ (by omega)
              have hw4 : Int.tdiv ((fk : Int) * ((fk : Int) - 1)) 2 = (ck : Int) := by rw [← hcast, ← hC]; simp
              have hck2 : ck ≤ 900000000 := by omega
              have hw5 : IntKind.i64.wrap ((T : Int) + (ck : Int)) = (T : Int) + (ck : Int) := IntWalk.i64_in _ (by omega)
              have HRel : Hid (∀ wx, Hid (Below wk.heap.size wk wx) → (∃ k1 : Nat, k1 ≤ nc ∧ Value.int .i64 ((k : Int) + 1) = .int .i64 k1 ∧ Value.int .i64 ((S : Int) + (fk : Int)) = .int .i64 (sm k1 f : Nat) ∧ Value.int .i64 ((T : Int) + (ck : Int)) = .int .i64 (sm k1 (fun p => C2 (f p)) : Nat) ∧ Hid (Below wk.heap.size wk wx))) := Lib.hid (fun wx h => ⟨k + 1, by omega, by go_num, by rw [HSa.out]; push_cast; rfl, by rw [HSb.out]; push_cast; rfl, h⟩)
              clear hs1 hs2 hC hmu hcast HSa HSb
              go_upto_region 24 with fail
              go_quiet (fail)
              have HBj := Lib.hid (HBl.out.trans (by repeat (first | with_reducible exact Below.refl _ _ | with_reducible apply bdN | with_reducible apply Below.drew) : Below wk.heap.size wr (wr.drewN nq)))
              go_wp2_with fail
              go_roundw
              case rel => exact HRel.out _ HBj
              case measure => simp [intOf]; omega
            · obtain rfl : k = nc := by omega
              rw [HE3.out, ← HE4.out]
              have HBf : Hid (Below w.heap.size w wr) := Lib.hid (HB.out.trans (HBl.out.mono HB.out.size))
              have h5 := HE5.out
              have v1 : IntKind.i64.wrap (3 * (m : Int)) = 3 * (m : Int) := IntWalk.i64_in _ (by omega)
              have v2 : IntKind.i64.wrap (3 * (m : Int) + op) = 3 * (m : Int) + op := IntWalk.i64_in _ (by omega)
              have v3 : IntKind.i64.wrap (2 * (3 * (m : Int) + op)) = 2 * (3 * (m : Int) + op) := IntWalk.i64_in _ (by omega)
              have v4 : IntKind.i64.wrap ((k : Int) - 1) = (k : Int) - 1 := IntWalk.i64_in _ (by omega)
              have v5 : IntKind.i64.wrap ((k : Int) * ((k : Int) - 1)) = (k : Int) * ((k : Int) - 1) := IntWalk.i64_in _ (by omega)
              have v6 : (2 * (3 * (m : Int) + op) == (k : Int) * ((k : Int) - 1)) = true := by rw [h5]; simp
              clear h5
              as_aux_lemma =>
                go_wp2_with fail
                go_ret
                exact ⟨rfl, HBf.out⟩
end Go.Proofs.Ytnibkipepmakgaa.parting

