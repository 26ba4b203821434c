/- ChanceTrait: the closures, and the mathematics. -/
import Derived.Test.YtcedbhgjabheaaaGn
import Derived.Test.YtcedbhgjabheaaaZt
namespace Go.Proofs.Ytcedbhgjabheaaa.chance
open Go.RowKit
open cards reg parting
set_option linter.unusedVariables false

/-- A trait of a card. -/
def tr (x : Cd) : Nat → Int
  | 0 => x.a
  | 1 => x.b
  | 2 => x.c
  | _ => x.d
theorem tr_bd {x : Cd} (h : x.ok = true) (t : Nat) : 0 ≤ tr x t ∧ tr x t ≤ 2 := by
  obtain ⟨h1, h2, h3, h4⟩ := Cd.bd h
  match t with
  | 0 => exact h1
  | 1 => exact h2
  | 2 => exact h3
  | t + 3 => exact h4
/-- All cards have this trait as the first one has it. -/
def sameT (t : Nat) : List Cd → Bool
  | [] => true
  | x :: r => !(x :: r).any (fun y => tr y t != tr x t)
def cntT (t : Nat) (v : Int) (l : List Cd) : Nat := (l.filter (fun x => tr x t == v)).length
theorem sameT_snoc {t : Nat} {x y : Cd} {r : List Cd} : sameT t ((x :: r) ++ [y]) = (sameT t (x :: r) && (tr y t == tr x t)) := by
  simp only [sameT, List.cons_append, List.any_cons, List.any_append, List.any_nil, Bool.or_false, Bool.not_or, bne, Bool.not_not, Bool.and_assoc]
theorem tot_bad (t : Nat) : ∀ (n : Nat) (r : List Cd) (x : Cd) (b : List Cd), sameT t (x :: b) = false → tot (fun d => nat (sameT t d)) n r (x :: b) = 0
  | 0, r, x, b, h => by rw [tot_zero, h]; rfl
  | n + 1, [], x, b, h => rfl
  | n + 1, y :: r, x, b, h => by
    have h2 : sameT t (x :: (b ++ [y])) = false := by
      have := sameT_snoc (t := t) (x := x) (y := y) (r := b)
      rw [h, Bool.false_and] at this
      exact this
    rw [tot, List.cons_append, tot_bad t n r x (b ++ [y]) h2, tot_bad t (n + 1) r x b h]
theorem tot_good (t : Nat) : ∀ (n : Nat) (r : List Cd) (x : Cd) (b : List Cd), sameT t (x :: b) = true → tot (fun d => nat (sameT t d)) n r (x :: b) = cho (cntT t (tr x t) r) n
  | 0, r, x, b, h => by rw [tot_zero, h, cho_zero]; rfl
  | n + 1, [], x, b, h => rfl
  | n + 1, y :: r, x, b, h => by
    have h2 := sameT_snoc (t := t) (x := x) (y := y) (r := b)
    rw [h, Bool.true_and] at h2
    rw [tot, List.cons_append, tot_good t (n + 1) r x b h]
    cases hy : tr y t == tr x t
    · rw [hy] at h2
      rw [tot_bad t n r x (b ++ [y]) h2]
      have e : cntT t (tr x t) (y :: r) = cntT t (tr x t) r := by unfold cntT; rw [List.filter_cons, hy]; rfl
      rw [e, Nat.zero_add]
    · rw [hy] at h2
      rw [tot_good t n r x (b ++ [y]) h2]
      have e : cntT t (tr x t) (y :: r) = cntT t (tr x t) r + 1 := by unfold cntT; rw [List.filter_cons, hy]; rfl
      rw [e, cho]
theorem cntT_cons (t : Nat) (v : Int) (x : Cd) (r : List Cd) : cntT t v (x :: r) = cntT t v r + (if tr x t = v then 1 else 0) := by
  unfold cntT
  rw [List.filter_cons]
  by_cases h : tr x t = v
  · rw [if_pos h, if_pos (by simp [h])]; rfl
  · rw [if_neg h, if_neg (by simp [h])]; rfl
/-- The draws that have one trait alike are those of each value. -/
theorem tot_trait (t n : Nat) : ∀ l : List Cd, l.all Cd.ok = true → tot (fun d => nat (sameT t d)) (n + 1) l [] = cho (cntT t 0 l) (n + 1) + cho (cntT t 1 l) (n + 1) + cho (cntT t 2 l) (n + 1)
  | [], _ => rfl
  | x :: r, h => by
    simp only [List.all_cons, Bool.and_eq_true] at h
    have ih := tot_trait t n r h.2
    have hb := tr_bd h.1 t
    have hg := tot_good t n r x [] (by simp [sameT])
    rw [tot, List.nil_append, hg, ih, cntT_cons, cntT_cons, cntT_cons]
    rcases (show tr x t = 0 ∨ tr x t = 1 ∨ tr x t = 2 by omega) with e | e | e <;> rw [e] <;> simp only [if_true, show ((0 : Int) = 1) = False by simp, show ((0 : Int) = 2) = False by simp, show ((1 : Int) = 0) = False by simp, show ((1 : Int) = 2) = False by simp, show ((2 : Int) = 0) = False by simp, show ((2 : Int) = 1) = False by simp, if_false, Nat.add_zero, cho] <;> omega
theorem cntT_snoc (t : Nat) (v : Int) (x : Cd) (l : List Cd) : cntT t v (l ++ [x]) = cntT t v l + (if tr x t = v then 1 else 0) := by
  unfold cntT
  rw [List.filter_append, List.length_append]
  by_cases h : tr x t = v
  · rw [if_pos h]; simp [h]
  · rw [if_neg h]; simp [h]
theorem cntT_le (t : Nat) (v : Int) (l : List Cd) : cntT t v l ≤ l.length := List.length_filter_le _ _

set_option maxRecDepth 100000 in
set_option maxHeartbeats 2000000 in
theorem index_funC (f : FuncId) (q r : Value) (P : Cd → Bool) (l : List Cd) (p : Option Addr) (n c : Nat) (w : World) (hn : l.length = n) (hl : n ≤ 1000000000) (hr : Rd w p (flat l))
    (hcf : ∀ (args : Array Value) (w : World), (callFunc f args).run Try.prog w = .ok (.enter f args) w)
    (hC : ∀ (x : Cd) (w' : World), Below w.heap.size w w' → Calls Try.prog f #[x.val, q, r] w' fun e w2 => e = .returned (.bool (P x)) ∧ Below w'.heap.size w' w2) :
    Calls Try.prog 102 #[.slice p n c, .func (.func f) #[] #[q, r]] w fun e w' => e = .returned (.int .i64 (posP P l)) ∧ Below w.heap.size w w' := by
  have HN := Lib.hid hn
  have HR := Lib.hid hr
  have HC := Lib.hid hC
  clear hn hr hC
  go_enter Try.func102, Try.ntmps102
  go_wp2_with fail
  go_loopw [5, 8] (fun _ i wr => ∃ k : Nat, k ≤ n ∧ i = .int .i64 k ∧ Hid (∀ (j : Nat) y, j < k → l[j]? = some y → P y = false) ∧ Hid (Below w.heap.size w wr)) (fun _ i _ => n - (intOf i).toNat)
  case atStart => exact ⟨0, Nat.zero_le _, rfl, Lib.hid (fun j y h => by omega), Lib.hid (Below.refl _ _)⟩
  case round =>
    obtain ⟨k, hk, rfl, HU, HB⟩ := hrel
    by_cases hlt : k < n
    · obtain ⟨b, o, x, rfl, hb, hx, c0, c1, c2, c3⟩ := (HR.out.below HB.out).card (k := k) (by rw [HN.out]; exact hlt)
      have HX := Lib.hid hx
      clear hx
      have m0 : (0 : Int) ≤ (k : Int) := by omega
      have m1 : (k : Int) < (n : Int) := by omega
      go_wp2_with fail
      refine (HC.out x _ HB.out).mono ?_
      rintro e w1 ⟨rfl, b⟩
      have Sw1 := Lib.hid b.size
      have HB := Lib.hid (chain0 (w := w) (by repeat (first | with_reducible exact Below.refl _ _ | with_reducible exact HB.out | with_reducible apply Below.drew | with_reducible apply bdN | with_reducible refine Below.alloc ?_ (by first | exact Nat.le_refl _ | with_reducible exact HB.out.size | omega | (simp; done) | (simp; omega) | (have := HB.out.size; simp at *; omega)) _ | with_reducible refine Below.setCell ?_ (by first | exact Nat.le_refl _ | with_reducible exact HB.out.size | omega | (simp; done) | (simp; omega) | (have := HB.out.size; simp at *; omega)) _)) b)
      clear b
      clear c0 c1 c2 c3
      cases hs : P x
      · have HU1 := Lib.hid (show ∀ (j : Nat) y, j < k + 1 → l[j]? = some y → P y = false from fun j y hj hy => by
          rcases Nat.lt_or_ge j k with h | h
          · exact HU.out j y h hy
          · obtain rfl : j = k := by omega
            have h1 := HX.out; rw [hy] at h1; injection h1 with h1; subst h1; exact hs)
        go_wp2_with fail
        go_roundw
        case rel => exact ⟨k + 1, by omega, by go_num, HU1, HB⟩
        case measure => simp [intOf]; omega
      · have HP := Lib.hid (show (k : Int) = posP P l from posP_at HX.out hs HU.out)
        go_wp2_with fail
        go_ret
        exact ⟨ret_int HP.out, HB.out⟩
    · obtain rfl : k = n := by omega
      have HP := Lib.hid (show -1 = posP P l from posP_none (fun j y hy => HU.out j y (by rw [← HN.out]; exact (List.getElem?_eq_some_iff.1 hy).1) hy))
      go_wp2_with fail
      go_ret
      exact ⟨ret_int HP.out, HB.out⟩

set_option maxRecDepth 100000 in
set_option maxHeartbeats 2000000 in
theorem contains_funC (f : FuncId) (q r : Value) (P : Cd → Bool) (l : List Cd) (p : Option Addr) (n c : Nat) (w : World) (hn : l.length = n) (hl : n ≤ 1000000000) (hr : Rd w p (flat l))
    (hcf : ∀ (args : Array Value) (w : World), (callFunc f args).run Try.prog w = .ok (.enter f args) w)
    (hC : ∀ (x : Cd) (w' : World), Below w.heap.size w w' → Calls Try.prog f #[x.val, q, r] w' fun e w2 => e = .returned (.bool (P x)) ∧ Below w'.heap.size w' w2) :
    Calls Try.prog 76 #[.slice p n c, .func (.func f) #[] #[q, r]] w fun e w' => e = .returned (.bool (l.any P)) ∧ Below w.heap.size w w' := by
  have HI := index_funC f q r P l p n c w hn hl hr hcf hC
  have hbd := posP_bd P l
  have hnn := posP_nn (P := P) (l := l)
  generalize posP P l = z at *
  rw [← hnn]
  have HI := Lib.hid HI
  clear hC hr hnn
  go_enter Try.func76, Try.ntmps76
  go_wp2_with fail
  refine HI.out.mono ?_
  rintro e w1 ⟨rfl, b⟩
  go_wp2_with fail
  go_ret
  exact ⟨rfl, b⟩
end Go.Proofs.Ytcedbhgjabheaaa.chance
