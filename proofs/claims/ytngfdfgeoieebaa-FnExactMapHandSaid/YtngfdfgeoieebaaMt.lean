/- Maps: FixedCards, the program's and the model's. -/
import Derived.Test.YtngfdfgeoieebaaRm
import Derived.Test.YtngfdfgeoieebaaNm
import Derived.Test.YtngfdfgeoieebaaIs
namespace Go.Proofs.Ytngfdfgeoieebaa.maps
open Go.RowKit
open cards reg
set_option linter.unusedVariables false

theorem exec_eql (x y : Cd) (hx : x.ok = true) (hy : y.ok = true) {a : Act} {o : Oper} {p q : Operand} {t : TypeId} (ho : o.op = .binOp .eql 22 p q t) (hp : a.eval p = x.val) (hq : a.eval q = y.val) (w : World) :
    (execOp a.eval o).run Try.prog w = .ok (.value (.bool (same x y))) w := by
  have he := eq_run x y hx hy
  unfold execOp
  rw [ho]
  simp only [hp, hq]
  go_simp
theorem exec_neq (x y : Cd) (hx : x.ok = true) (hy : y.ok = true) {a : Act} {o : Oper} {p q : Operand} {t : TypeId} (ho : o.op = .binOp .neq 22 p q t) (hp : a.eval p = x.val) (hq : a.eval q = y.val) (w : World) :
    (execOp a.eval o).run Try.prog w = .ok (.value (.bool (!same x y))) w := by
  have he := eq_run x y hx hy
  unfold execOp
  rw [ho]
  simp only [hp, hq]
  go_simp
/-- The numbers below k of the cards of which P says yes. -/
def numP (P : Cd → Bool) : Nat → List Int
  | 0 => []
  | k + 1 => if P (cdAt (k : Int)) = true then numP P k ++ [(k : Int)] else numP P k
theorem numP_len (P : Cd → Bool) (k : Nat) : (numP P k).length ≤ k := by
  induction k with
  | zero => simp [numP]
  | succ k ih =>
    show (if _ then _ else _ : List Int).length ≤ _
    split
    · rw [List.length_append]; simp only [List.length_cons, List.length_nil]; omega
    · omega
theorem numP_yes {P : Cd → Bool} {k : Nat} (h : P (cdAt (k : Int)) = true) : numP P (k + 1) = numP P k ++ [(k : Int)] := by show (if _ then _ else _) = _; rw [if_pos h]
theorem numP_no {P : Cd → Bool} {k : Nat} (h : P (cdAt (k : Int)) = false) : numP P (k + 1) = numP P k := by show (if _ then _ else _) = _; rw [if_neg (by simp [h])]
theorem cdAt_okM {n : Int} (h0 : 0 ≤ n) (h1 : n ≤ 80) : (cdAt n).ok = true := Cd.mk_ok (by unfold cdAt; simp only; omega)
theorem OwnI.baseM {w : World} {B B' : Nat} {v : Value} {l : List Int} (h : OwnI w B v l) (hB : B' ≤ B) : OwnI w B' v l := by
  obtain ⟨hl, h0 | ⟨g, cap, cur, e, hb, r⟩⟩ := h
  · exact ⟨hl, .inl h0⟩
  · exact ⟨hl, .inr ⟨g, cap, cur, e, Nat.le_trans hB hb, r⟩⟩
/-- What FixedCards returns. -/
def fxR (m : Mp) : List Int × Bool := if m.ok = true then (numP (fun x => same (img m x) x) 81, true) else ([], false)
theorem fxR_len (m : Mp) : (fxR m).1.length ≤ 1000 := by
  unfold fxR; split
  · exact Nat.le_trans (numP_len _ _) (by omega)
  · simp

set_option maxRecDepth 100000 in
set_option maxHeartbeats 4000000 in
theorem fixed_fun (m : Mp) (x : Cd) (g : Nat) (T : TypeId) (w : World) (hm : m.ok = true) (hx : x.ok = true) (hg : MBox w g ⟨T, m⟩) :
    Calls Try.prog 72 #[x.val, .pointer (some ⟨g, 0, none⟩)] w fun e w' => e = .returned (.bool (same (img m x) x)) ∧ Below w.heap.size w w' := by
  have HM := Lib.hid hm
  have HX := Lib.hid hx
  have K0 : Hid (MBox (w.alloc x.obj) g ⟨T, m⟩) := Lib.hid (hg.alloc _)
  have K1 : Hid (Box (w.alloc x.obj) w.heap.size x) := Lib.hid (Box.newAt rfl rfl)
  have HB : Hid (Below w.heap.size w (w.alloc x.obj)) := Lib.hid ((Below.refl _ _).alloc (Nat.le_refl _) _)
  clear hm hx hg
  go_enter Try.func72, Try.ntmps72
  go_upto_region 1 with fail
  generalize w.alloc x.obj = W at *
  refine region_BI [(true, 0), (true, 1), (true, 3), (false, 2), (true, 4), (true, 5)] (by kernel_rfl) rfl (by kernel_rfl) ?_
  refine chain_load 4 rfl rfl rfl 28 _ rfl rfl m.vals (fun w h => MBox.below K0.out h) Try.underlying28 rfl (by kernel_rfl) ?_
  refine chain_load 5 rfl rfl rfl 22 _ rfl rfl #[.int .i64 x.a, .int .i64 x.b, .int .i64 x.c, .int .i64 x.d] (fun w h => Box.below K1.out h) Try.underlying22 rfl (by kernel_rfl) ?_
  refine chain_load 7 rfl rfl rfl 22 _ rfl rfl #[.int .i64 x.a, .int .i64 x.b, .int .i64 x.c, .int .i64 x.d] (fun w h => Box.below K1.out h) Try.underlying22 rfl (by kernel_rfl) ?_
  refine chain_call 6 rfl rfl rfl (fun w => by kernel_rfl) (fun w h => image_run m x w HM.out HX.out) ?_
  refine chain_pure 8 (v := .bool (same (img m x) x)) rfl rfl rfl (exec_eql (img m x) x (img_ok HM.out x) HX.out rfl (by kernel_rfl) (by kernel_rfl)) ?_
  refine chain_pure 3 (v := .bool (same (img m x) x)) rfl rfl rfl (fun w => by kernel_rfl) ?_
  intro w2 b2
  simp only [Act.put, List.setIfInBounds_toArray, List.set_cons_zero, List.set_cons_succ]
  have HB := Lib.hid (chain0 HB.out b2)
  clear b2
  go_wp2_with fail
  go_ret
  exact ⟨rfl, HB.out⟩

set_option maxRecDepth 100000 in
set_option maxHeartbeats 4000000 in
theorem numbers_of_fixed (P : Cd → Bool) (q : Value) (w : World)
    (hf : ∀ (x : Cd) (w' : World), x.ok = true → Below w.heap.size w w' → Calls Try.prog 72 #[x.val, q] w' fun e w'' => e = .returned (.bool (P x)) ∧ Below w'.heap.size w' w'') :
    Calls Try.prog 71 #[.func (.func 72) #[] #[q]] w fun e w' => ∃ u, e = .returned u ∧ OwnI w' w.heap.size u (numP P 81) ∧ Below w.heap.size w w' := by
  have HF := Lib.hid hf
  clear hf
  go_enter Try.func71, Try.ntmps71
  go_wp2_with fail
  go_loopw [3, 6] (fun o i wr => ∃ k : Nat, k ≤ 81 ∧ i = .int .i64 k ∧ Hid (OwnI wr w.heap.size o (numP P k)) ∧ Hid (Below w.heap.size w wr)) (fun _ i _ => 81 - (intOf i).toNat)
  case atStart => exact ⟨0, Nat.zero_le _, rfl, Lib.hid (OwnI.empty _ _ (Nat.le_refl _)), Lib.hid (by repeat (first | with_reducible exact Below.refl _ _ | with_reducible exact HB.out | with_reducible apply Below.drew | with_reducible apply bdN | with_reducible refine Below.alloc ?_ (by first | exact Nat.le_refl _ | with_reducible exact HB.out.size | omega | (simp; done) | (simp; omega) | (have := HB.out.size; simp at *; omega)) _ | with_reducible refine Below.setCell ?_ (by first | exact Nat.le_refl _ | with_reducible exact HB.out.size | omega | (simp; done) | (simp; omega) | (have := HB.out.size; simp at *; omega)) _))⟩
  case round =>
    obtain ⟨k, hk, rfl, HO, HB⟩ := hrel
    by_cases hlt : k < 81
    · have m0 : (0 : Int) ≤ (k : Int) := by omega
      have m1 : (k : Int) < 81 := by omega
      have HC := Lib.hid (cdAt_okM (n := (k : Int)) m0 (by omega))
      have HLn := Lib.hid (numP_len P k)
      go_wp2_with fail
      refine ((card_of (k : Int) _ m0 (by omega))).mono ?_
      rintro e w1 ⟨rfl, b⟩
      have Sw1 := Lib.hid b.size
      have HB := Lib.hid (chain0 (w := w) (by repeat (first | with_reducible exact Below.refl _ _ | with_reducible exact HB.out | with_reducible apply Below.drew | with_reducible apply bdN | with_reducible refine Below.alloc ?_ (by first | exact Nat.le_refl _ | with_reducible exact HB.out.size | omega | (simp; done) | (simp; omega) | (have := HB.out.size; simp at *; omega)) _ | with_reducible refine Below.setCell ?_ (by first | exact Nat.le_refl _ | with_reducible exact HB.out.size | omega | (simp; done) | (simp; omega) | (have := HB.out.size; simp at *; omega)) _)) b)
      have HO := Lib.hid (OwnI.below (by repeat (first | with_reducible exact HO.out | with_reducible apply OwnI.drewN | with_reducible apply OwnI.drew | with_reducible apply OwnI.alloc)) b)
      clear b
      have HPx := Lib.hid (HF.out (cdAt (k : Int)) w1 HC.out HB.out)
      cases ht : P (cdAt (k : Int))
      · have HE := Lib.hid (numP_no ht)
        rw [ht] at HPx
        clear ht
        go_wp2_with fail
        refine (HPx.out).mono ?_
        rintro e w2 ⟨rfl, b⟩
        have Sw2 := Lib.hid b.size
        have HB := Lib.hid (chain0 (w := w) (by repeat (first | with_reducible exact Below.refl _ _ | with_reducible exact HB.out | with_reducible apply Below.drew | with_reducible apply bdN | with_reducible refine Below.alloc ?_ (by first | exact Nat.le_refl _ | with_reducible exact HB.out.size | omega | (simp; done) | (simp; omega) | (have := HB.out.size; simp at *; omega)) _ | with_reducible refine Below.setCell ?_ (by first | exact Nat.le_refl _ | with_reducible exact HB.out.size | omega | (simp; done) | (simp; omega) | (have := HB.out.size; simp at *; omega)) _)) b)
        have HO := Lib.hid (OwnI.below (by repeat (first | with_reducible exact HO.out | with_reducible apply OwnI.drewN | with_reducible apply OwnI.drew | with_reducible apply OwnI.alloc)) b)
        clear b
        go_wp2_with fail
        go_roundw
        case rel => exact ⟨k + 1, by omega, by go_num, by rw [HE.out]; exact HO, HB⟩
        case measure => simp [intOf]; omega
      · have HE := Lib.hid (numP_yes ht)
        rw [ht] at HPx
        clear ht
        go_wp2_with fail
        refine (HPx.out).mono ?_
        rintro e w2 ⟨rfl, b⟩
        have Sw2 := Lib.hid b.size
        have HB := Lib.hid (chain0 (w := w) (by repeat (first | with_reducible exact Below.refl _ _ | with_reducible exact HB.out | with_reducible apply Below.drew | with_reducible apply bdN | with_reducible refine Below.alloc ?_ (by first | exact Nat.le_refl _ | with_reducible exact HB.out.size | omega | (simp; done) | (simp; omega) | (have := HB.out.size; simp at *; omega)) _ | with_reducible refine Below.setCell ?_ (by first | exact Nat.le_refl _ | with_reducible exact HB.out.size | omega | (simp; done) | (simp; omega) | (have := HB.out.size; simp at *; omega)) _)) b)
        have HO := Lib.hid (OwnI.below (by repeat (first | with_reducible exact HO.out | with_reducible apply OwnI.drewN | with_reducible apply OwnI.drew | with_reducible apply OwnI.alloc)) b)
        clear b
        go_wp2_with (at_builtin; refine append_int rfl (.tmp 13) (.tmp 15) rfl w.heap.size _ (numP P k) (k : Int) _ _ rfl rfl rfl HO.out (by have := HLn.out; omega) HB.out.size ?_; intro v1 w5 hO1 hB1)
        rw [← HE.out] at hO1
        go_roundw
        case rel => exact ⟨k + 1, by omega, by go_num, hO1, HB.out.trans hB1⟩
        case measure => simp [intOf]; omega
    · obtain rfl : k = 81 := by omega
      go_wp2_with fail
      go_ret
      exact ⟨_, rfl, HO.out, HB.out⟩

set_option maxRecDepth 100000 in
set_option maxHeartbeats 4000000 in
theorem impl_fx (m : Mp) (w : World) :
    Calls Try.prog 38 #[m.val] w fun e w' => ∃ u, e = .returned (.tuple #[u, .bool (fxR m).2]) ∧ OwnI w' w.heap.size u (fxR m).1 ∧ Below w.heap.size w w' := by
  have hmf : ∀ (fn : Fn) (first cap : Array Value) (w : World), (Instr.makeFunc fn first cap).run Try.prog w = .ok (.func fn first cap) w := fun _ _ _ _ => rfl
  have HI := Lib.hid (fun w => is_map m w)
  have K0 : Hid (MBox (w.alloc (Mv.obj ⟨28, m⟩)) w.heap.size ⟨28, m⟩) := Lib.hid (MBox.newAt rfl rfl)
  have HB : Hid (Below w.heap.size w (w.alloc (Mv.obj ⟨28, m⟩))) := Lib.hid ((Below.refl _ _).alloc (Nat.le_refl _) _)
  go_enter Try.func38, Try.ntmps38
  go_upto_region 1 with fail
  generalize w.alloc (Mv.obj ⟨28, m⟩) = W at *
  cases hm : m.ok
  · have HT := Lib.hid (show fxR m = ([], false) by unfold fxR; rw [if_neg (by simp [hm])])
    rw [hm] at HI
    clear hm
    go_wp2_with ((with_reducible refine take_map rfl _ rfl K0.out ?_ ?_); rfl)
    refine (HI.out _).mono ?_
    rintro e w1 ⟨rfl, q⟩
    have HB := Lib.hid (chain0 HB.out q)
    clear q
    go_wp2_with fail
    go_ret2
    exact ⟨_, ret_two (by rw [HT.out]), by rw [HT.out]; exact OwnI.empty _ _ HB.out.size, by repeat (first | with_reducible exact Below.refl _ _ | with_reducible exact HB.out | with_reducible apply Below.drew | with_reducible apply bdN | with_reducible refine Below.alloc ?_ (by first | exact Nat.le_refl _ | with_reducible exact HB.out.size | omega | (simp; done) | (simp; omega) | (have := HB.out.size; simp at *; omega)) _ | with_reducible refine Below.setCell ?_ (by first | exact Nat.le_refl _ | with_reducible exact HB.out.size | omega | (simp; done) | (simp; omega) | (have := HB.out.size; simp at *; omega)) _)⟩
  · have HT := Lib.hid (show fxR m = (numP (fun x => same (img m x) x) 81, true) by unfold fxR; rw [if_pos hm])
    have HM := Lib.hid hm
    rw [hm] at HI
    clear hm
    go_wp2_with ((with_reducible refine take_map rfl _ rfl K0.out ?_ ?_); rfl)
    refine (HI.out _).mono ?_
    rintro e w1 ⟨rfl, q⟩
    have HB := Lib.hid (chain0 HB.out q)
    have K0 := Lib.hid (MBox.below K0.out q)
    clear q
    go_wp2_with fail
    refine (numbers_of_fixed (fun x => same (img m x) x) (.pointer (some ⟨w.heap.size, 0, none⟩)) _ (fun x w' hx hb => fixed_fun m x w.heap.size _ w' HM.out hx (K0.out.below hb))).mono ?_
    rintro e w4 ⟨u, rfl, hu, q⟩
    have HU := Lib.hid (OwnI.baseM hu HB.out.size)
    have HB := Lib.hid (chain0 HB.out q)
    clear q hu
    go_wp2_with fail
    go_ret2
    exact ⟨_, ret_two (by rw [HT.out]), by rw [HT.out]; exact HU.out, HB.out⟩

set_option maxRecDepth 100000 in
set_option maxHeartbeats 1000000 in
theorem l2_atM (n : Int) (w : World) (h0 : 0 ≤ n) (h1 : n ≤ 80) :
    Calls Try.prog 70 #[.int .i64 n] w fun e w' => e = .returned (cdAt n).val ∧ Below w.heap.size w w' := by
  go_enter Try.func70, Try.ntmps70
  go_wp2_with fail
  exact bodyPost_ret (v := (cdAt n).val) (by simp [results, Try.results70, go_sem, cdAt, *]) rfl ⟨rfl, by repeat (first | with_reducible exact Below.refl _ _ | with_reducible exact HB.out | with_reducible apply Below.drew | with_reducible apply bdN | with_reducible refine Below.alloc ?_ (by first | exact Nat.le_refl _ | with_reducible exact HB.out.size | omega | (simp; done) | (simp; omega) | (have := HB.out.size; simp at *; omega)) _ | with_reducible refine Below.setCell ?_ (by first | exact Nat.le_refl _ | with_reducible exact HB.out.size | omega | (simp; done) | (simp; omega) | (have := HB.out.size; simp at *; omega)) _)⟩

set_option maxRecDepth 100000 in
set_option maxHeartbeats 4000000 in
theorem spec_fx (m : Mp) (w : World) :
    Calls Try.prog 37 #[m.val] w fun e w' => ∃ u, e = .returned (.tuple #[u, .bool (fxR m).2]) ∧ OwnI w' w.heap.size u (fxR m).1 ∧ Below w.heap.size w w' := by
  have HI := Lib.hid (fun w => l5_map m w)
  have K0 : Hid (MBox (w.alloc (Mv.obj ⟨28, m⟩)) w.heap.size ⟨28, m⟩) := Lib.hid (MBox.newAt rfl rfl)
  have HB : Hid (Below w.heap.size w (w.alloc (Mv.obj ⟨28, m⟩))) := Lib.hid ((Below.refl _ _).alloc (Nat.le_refl _) _)
  go_enter Try.func37, Try.ntmps37
  go_upto_region 1 with fail
  generalize w.alloc (Mv.obj ⟨28, m⟩) = W at *
  have HO := Lib.hid (OwnI.empty W (w.heap.size + 1) K0.out.lt)
  have K0 := Lib.hid (K0.out.alloc (.cells #[] 3))
  have HB := Lib.hid (HB.out.alloc HB.out.size (.cells #[] 3))
  cases hm : m.ok
  · have HT := Lib.hid (show fxR m = ([], false) by unfold fxR; rw [if_neg (by simp [hm])])
    rw [hm] at HI
    clear hm
    go_wp2_with ((with_reducible refine take_map rfl _ rfl K0.out ?_ ?_); rfl)
    refine (HI.out _).mono ?_
    rintro e w1 ⟨rfl, q⟩
    have HB := Lib.hid (chain0 HB.out q)
    have HO := Lib.hid (OwnI.below HO.out q)
    clear q
    go_wp2_with fail
    go_ret2
    exact ⟨_, ret_two (by rw [HT.out]), by rw [HT.out]; exact OwnI.baseM HO.out (by omega), HB.out⟩
  · have HT := Lib.hid (show fxR m = (numP (fun x => same (img m x) x) 81, true) by unfold fxR; rw [if_pos hm])
    have HM := Lib.hid hm
    rw [hm] at HI
    clear hm
    go_wp2_with ((with_reducible refine take_map rfl _ rfl K0.out ?_ ?_); rfl)
    refine (HI.out _).mono ?_
    rintro e w1 ⟨rfl, q⟩
    have HB := Lib.hid (chain0 HB.out q)
    have HO := Lib.hid (OwnI.below HO.out q)
    have K0 := Lib.hid (MBox.below K0.out q)
    clear q
    go_wp2_with fail
    go_loopw [4, 5] (fun o i wr => ∃ k : Nat, k ≤ 81 ∧ i = .int .i64 k ∧ Hid (OwnI wr (w.heap.size + 1) o (numP (fun x => same (img m x) x) k)) ∧ Hid (Below w.heap.size w wr) ∧ Hid (MBox wr w.heap.size ⟨28, m⟩)) (fun _ i _ => 81 - (intOf i).toNat)
    case atStart => exact ⟨0, Nat.zero_le _, rfl, HO, HB, K0⟩
    case round =>
      clear HO HB K0
      obtain ⟨k, hk, rfl, HO, HB, K0⟩ := hrel
      by_cases hlt : k < 81
      · have m0 : (0 : Int) ≤ (k : Int) := by omega
        have m1 : (k : Int) < 81 := by omega
        have HC := Lib.hid (cdAt_okM (n := (k : Int)) m0 (by omega))
        have HLn := Lib.hid (numP_len (fun x => same (img m x) x) k)
        obtain ⟨x, hx⟩ : ∃ x, cdAt (k : Int) = x := ⟨_, rfl⟩
        have HL := Lib.hid (fun w => l2_atM (k : Int) w m0 (by omega))
        rw [hx] at HC HL
        obtain ⟨b, hb⟩ : ∃ b, same (img m x) x = b := ⟨_, rfl⟩
        have HEQ := Lib.hid hb
        have HX := Lib.hid hx
        clear hx hb
        go_upto_region 7 with fail
        refine region_BI [(true, 0), (true, 1), (true, 4), (false, 2), (false, 3), (false, 5), (true, 6)] (by kernel_rfl) rfl (by kernel_rfl) ?_
        refine chain_load 15 rfl rfl rfl 28 _ rfl rfl m.vals (fun w h => MBox.below K0.out h) Try.underlying28 rfl (by kernel_rfl) ?_
        refine chain_pure 16 (v := .int .i64 k) rfl rfl rfl (fun w => by kernel_rfl) ?_
        refine chain_pure 19 (v := .int .i64 k) rfl rfl rfl (fun w => by kernel_rfl) ?_
        refine chain_call 17 rfl rfl rfl (fun w => by kernel_rfl) (fun w h => HL.out w) ?_
        refine chain_call 18 rfl rfl rfl (fun w => by kernel_rfl) (fun w h => l5_card m x w HM.out HC.out) ?_
        refine chain_call 20 rfl rfl rfl (fun w => by kernel_rfl) (fun w h => HL.out w) ?_
        refine chain_pure 21 (v := .bool b) rfl rfl rfl (by rw [← HEQ.out]; exact exec_eql (img m x) x (img_ok HM.out x) HC.out rfl (by kernel_rfl) (by kernel_rfl)) ?_
        intro w2 b2
        simp only [Act.put, List.setIfInBounds_toArray, List.set_cons_zero, List.set_cons_succ]
        have HB := Lib.hid (chain0 HB.out b2)
        have HO := Lib.hid (OwnI.below HO.out b2)
        have K0 := Lib.hid (MBox.below K0.out b2)
        clear b2
        cases b
        · have HE := Lib.hid (numP_no (P := fun x => same (img m x) x) (k := k) (by rw [HX.out]; exact HEQ.out))
          go_wp2_with fail
          go_roundw
          case rel => exact ⟨k + 1, by omega, by go_num, by rw [HE.out]; exact HO, HB, K0⟩
          case measure => simp [intOf]; omega
        · have HE := Lib.hid (numP_yes (P := fun x => same (img m x) x) (k := k) (by rw [HX.out]; exact HEQ.out))
          go_wp2_with (at_builtin; refine append_int rfl (.tmp 22) (.tmp 24) rfl (w.heap.size + 1) _ (numP (fun x => same (img m x) x) k) (k : Int) _ _ rfl rfl rfl HO.out (by have := HLn.out; omega) K0.out.lt ?_; intro v1 w5 hO1 hB1)
          rw [← HE.out] at hO1
          go_roundw
          case rel => exact ⟨k + 1, by omega, by go_num, hO1, HB.out.trans (hB1.mono (by omega)), Lib.hid (K0.out.under (by omega) hB1)⟩
          case measure => simp [intOf]; omega
      · obtain rfl : k = 81 := by omega
        go_wp2_with fail
        go_ret2
        exact ⟨_, ret_two (by rw [HT.out]), by rw [HT.out]; exact OwnI.baseM HO.out (by omega), HB.out⟩
end Go.Proofs.Ytngfdfgeoieebaa.maps
