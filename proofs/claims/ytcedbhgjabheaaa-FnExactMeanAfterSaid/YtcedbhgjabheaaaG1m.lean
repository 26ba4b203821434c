/- ChanceBlocked: mathematics, and what a hand blocks. -/
import Derived.Test.YtcedbhgjabheaaaG1h
import Derived.Test.YtcedbhgjabheaaaGn
import Derived.Test.YtcedbhgjabheaaaPw
namespace Go.Proofs.Ytcedbhgjabheaaa.chance
open Go.RowKit
open cards reg
set_option linter.unusedVariables false

theorem there_iff {l : List Cd} {t : Cd} (hs : sorted l) (hok : l.all Cd.ok = true) (ht : t.ok = true) : there l t = true ↔ t ∈ l := by
  constructor
  · intro h
    obtain ⟨z, hz, hn⟩ := of_decide_eq_true h
    have e := num_inj (ok_at hok hz) ht hn
    subst e
    exact List.mem_of_getElem? hz
  · intro h
    obtain ⟨k, hk⟩ := List.mem_iff_getElem?.1 h
    exact ((place_is hs hk).1 rfl).1
theorem cdAt_okN {n : Int} (h0 : 0 ≤ n) (h1 : n ≤ 80) : (cdAt n).ok = true := Cd.mk_ok (by unfold cdAt; simp only; omega)
theorem cdAt_numN {n : Int} (h0 : 0 ≤ n) (h1 : n ≤ 80) : num (cdAt n) = n := by unfold num cdAt; simp only; omega
theorem below_snoc {k : Nat} (hk : k ≤ 80) : ∀ l : List Cd, l.all Cd.ok = true → (l.filter (fun x => decide (num x < ((k + 1 : Nat) : Int)))).length = (l.filter (fun x => decide (num x < (k : Int)))).length + (l.filter (fun z => same (cdAt (k : Int)) z)).length
  | [], _ => rfl
  | x :: r, h => by
    simp only [List.all_cons, Bool.and_eq_true] at h
    have ih := below_snoc hk r h.2
    have hn := cdAt_numN (n := (k : Int)) (by omega) (by omega)
    have hsame : same (cdAt (k : Int)) x = decide (num x = (k : Int)) := by
      rw [same_num (cdAt_okN (by omega) (by omega)) h.1, hn]
      exact decide_eq_decide.2 ⟨fun h => h.symm, fun h => h.symm⟩
    rw [List.filter_cons, List.filter_cons, List.filter_cons, hsame]
    by_cases h1 : num x < (k : Int)
    · have h2 : num x < ((k + 1 : Nat) : Int) := by omega
      have h3 : ¬ num x = (k : Int) := by omega
      rw [decide_eq_true h1, decide_eq_true h2, decide_eq_false h3]
      simp only [if_true, List.length_cons, Bool.false_eq_true, if_false]
      omega
    · by_cases h3 : num x = (k : Int)
      · have h2 : num x < ((k + 1 : Nat) : Int) := by omega
        rw [decide_eq_false h1, decide_eq_true h2, decide_eq_true h3]
        simp only [if_true, List.length_cons, Bool.false_eq_true, if_false]
        omega
      · have h2 : ¬ num x < ((k + 1 : Nat) : Int) := by omega
        rw [decide_eq_false h1, decide_eq_false h2, decide_eq_false h3]
        simp only [Bool.false_eq_true, if_false]
        omega
theorem rst_count {l : List Cd} (hs : sorted l) (hok : l.all Cd.ok = true) : ∀ k : Nat, k ≤ 81 → (rst l k).length + (l.filter (fun x => decide (num x < (k : Int)))).length = k
  | 0, _ => by
    have : l.filter (fun x => decide (num x < ((0 : Nat) : Int))) = [] := List.filter_eq_nil_iff.2 fun x hx hc => by
      have h1 := (num_bd (List.all_eq_true.1 hok x hx)).1
      have h2 := of_decide_eq_true hc
      omega
    rw [this]; rfl
  | k + 1, hk => by
    have ih := rst_count hs hok k (by omega)
    have hko := cdAt_okN (n := (k : Int)) (by omega) (by omega)
    rw [below_snoc (by omega) l hok, filter_same _ _ hs]
    cases ht : there l (cdAt (k : Int))
    · rw [rst_yes ht, if_neg (fun hm => by rw [(there_iff hs hok hko).2 hm] at ht; cases ht), List.length_append]
      simp only [List.length_cons, List.length_nil]
      omega
    · rw [rst_no ht, if_pos ((there_iff hs hok hko).1 ht)]
      omega
/-- A hand and its rest are all cards. -/
theorem rst_81 {l : List Cd} (hs : sorted l) (hok : l.all Cd.ok = true) : (rst l 81).length + l.length = 81 := by
  have h := rst_count hs hok 81 (Nat.le_refl _)
  have e : l.filter (fun x => decide (num x < ((81 : Nat) : Int))) = l := List.filter_eq_self.2 fun x hx => decide_eq_true (by
    have h1 := (num_bd (List.all_eq_true.1 hok x hx)).2
    omega)
  rw [e] at h
  exact h

/-- Is the only card that is drawn blocked by a hand? -/
def blk1 (l : List Cd) : List Cd → Bool
  | [x] => decide (0 < thr l x l.length)
  | _ => false

set_option maxRecDepth 100000 in
set_option maxHeartbeats 2000000 in
theorem fit_blocks (w0 : World) (l L : List Cd) (p : Option Addr) (n c : Nat) (hn : l.length = n) (hl : n ≤ 1000) (hr : Rd w0 p (flat l)) (hok : l.all Cd.ok = true) (hs : sorted l) (hL : L.all Cd.ok = true) : FitAt 54 #[.slice p n c] #[] w0 L 1 (blk1 l) := by
  refine ⟨fun args w => by kernel_rfl, fun w ps g m cp hb hrp hsub hm hn1 hmc => ?_⟩
  subst hn1
  have hk := ok_sub hL hsub
  obtain ⟨x, rfl⟩ : ∃ x, ps = [x] := by
    match ps, hm with
    | [x], _ => exact ⟨x, rfl⟩
  simp at hk
  obtain ⟨b0, o0, x0, e0, h0, hx0, c0, c1, c2, c3⟩ := hrp.card (k := 0) (by simp)
  simp at hx0
  subst hx0
  injection e0 with e0; injection e0 with e0 e0'
  subst e0; subst e0'
  simp only [Nat.zero_add, Nat.zero_mul, Nat.add_zero] at c0 c1 c2 c3
  have HML := Lib.hid (fun w (hr : Rd w p (flat l)) => makes_line l x p n c w hn hl hr hok hk hs)
  have HR := Lib.hid (hr.below hb)
  show Calls Try.prog 54 #[.slice p n c, .slice (some ⟨g, 0, none⟩) 1 cp] w (fun e w' => e = .returned (.bool (decide (0 < thr l x l.length))) ∧ Below w.heap.size w w')
  rw [hn]
  obtain ⟨t, ht⟩ : ∃ t, decide (0 < thr l x n) = t := ⟨_, rfl⟩
  rw [ht] at HML ⊢
  clear hrp hsub hb hr hok hs hL hk ht hn
  go_enter Try.func54, Try.ntmps54
  go_wp2_with fail
  refine (HML.out _ HR.out).mono ?_
  rintro e w1 ⟨rfl, b⟩
  go_wp2_with fail
  go_ret
  exact ⟨rfl, b⟩
end Go.Proofs.Ytcedbhgjabheaaa.chance
