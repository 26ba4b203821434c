/- The mean of what is counted in draws. -/
import Derived.Test.YtjanphcfflahkaaGa
import Derived.Test.YtjanphcfflahkaaG4
namespace Go.Proofs.Ytjanphcfflahkaa.chance
open Go.RowKit
open cards reg
set_option linter.unusedVariables false

/-- What a mean of T in D draws is. -/
def mdR (T D : Nat) : (Int × Int) × Bool := if D = 0 then ((0, 0), false) else (frac T D, true)

set_option maxRecDepth 100000 in
set_option maxHeartbeats 4000000 in
theorem mean_drawn (fn : FuncId) (first caps : Array Value) (w : World) (l : List Cd) (N : Nat) (cnt : List Cd → Nat) (HC : CountAt fn first caps w l N cnt) (p : Option Addr) (k cp : Nat) (hk : l.length = k) (hkc : k ≤ cp) (hcp : k ≤ 1000000) (hN : N ≤ 1000) (hr : Rd w p (flat l)) (hT : tot cnt N l [] ≤ 1000000000000000) (hD : cho k N ≤ 1000000000000000) :
    Calls Try.prog 100 #[.slice p k cp, .int .i64 N, .func (.func fn) first caps] w fun e w' => e = .returned (.tuple #[.agg (fv (mdR (tot cnt N l []) (cho k N)).1), .bool (mdR (tot cnt N l []) (cho k N)).2]) ∧ Below w.heap.size w w' := by
  have HCO := Lib.hid HC
  have HK := Lib.hid hk
  have HR := Lib.hid hr
  have HT := Lib.hid hT
  have HD := Lib.hid hD
  clear HC hk hr hT hD
  have KF : Hid (VB (((((w.alloc (.cells #[.func (.func fn) first caps] 110)).alloc (.cells #[.int .i64 0, .int .i64 0] 31)).alloc (.cells #[.int .i64 0] 3)).alloc (.cells #[.int .i64 0] 3)).alloc (.cells #[] 22)) w.heap.size 110 #[.func (.func fn) first caps]) := Lib.hid (((((VB.newAt rfl rfl).alloc _).alloc _).alloc _).alloc _)
  have KR : Hid (VB (((((w.alloc (.cells #[.func (.func fn) first caps] 110)).alloc (.cells #[.int .i64 0, .int .i64 0] 31)).alloc (.cells #[.int .i64 0] 3)).alloc (.cells #[.int .i64 0] 3)).alloc (.cells #[] 22)) (w.heap.size + 1) 31 (fv (0, 0))) := Lib.hid ((((VB.newAt (by simp) rfl).alloc _).alloc _).alloc _)
  have KS : Hid (VB (((((w.alloc (.cells #[.func (.func fn) first caps] 110)).alloc (.cells #[.int .i64 0, .int .i64 0] 31)).alloc (.cells #[.int .i64 0] 3)).alloc (.cells #[.int .i64 0] 3)).alloc (.cells #[] 22)) (w.heap.size + 1 + 1) 3 #[.int .i64 0]) := Lib.hid (((VB.newAt (by simp) rfl).alloc _).alloc _)
  have KD : Hid (VB (((((w.alloc (.cells #[.func (.func fn) first caps] 110)).alloc (.cells #[.int .i64 0, .int .i64 0] 31)).alloc (.cells #[.int .i64 0] 3)).alloc (.cells #[.int .i64 0] 3)).alloc (.cells #[] 22)) (w.heap.size + 1 + 1 + 1) 3 #[.int .i64 0]) := Lib.hid ((VB.newAt (by simp) rfl).alloc _)
  have KO : Hid (Own (((((w.alloc (.cells #[.func (.func fn) first caps] 110)).alloc (.cells #[.int .i64 0, .int .i64 0] 31)).alloc (.cells #[.int .i64 0] 3)).alloc (.cells #[.int .i64 0] 3)).alloc (.cells #[] 22)) w.heap.size (.slice (some ⟨w.heap.size + 1 + 1 + 1 + 1, 0, none⟩) 0 0) []) := Lib.hid (by
    have h := Own.empty ((((w.alloc (.cells #[.func (.func fn) first caps] 110)).alloc (.cells #[.int .i64 0, .int .i64 0] 31)).alloc (.cells #[.int .i64 0] 3)).alloc (.cells #[.int .i64 0] 3)) w.heap.size (by simp; omega)
    simpa using h)
  have HB : Hid (Below w.heap.size w (((((w.alloc (.cells #[.func (.func fn) first caps] 110)).alloc (.cells #[.int .i64 0, .int .i64 0] 31)).alloc (.cells #[.int .i64 0] 3)).alloc (.cells #[.int .i64 0] 3)).alloc (.cells #[] 22))) := Lib.hid (by
    have b1 := (Below.refl w.heap.size w).alloc (Nat.le_refl _) (.cells #[.func (.func fn) first caps] 110)
    have b2 := b1.alloc b1.size (.cells #[.int .i64 0, .int .i64 0] 31)
    have b3 := b2.alloc b2.size (.cells #[.int .i64 0] 3)
    have b4 := b3.alloc b3.size (.cells #[.int .i64 0] 3)
    exact b4.alloc b4.size (.cells #[] 22))
  have HV := Lib.hid (fun W (hb : Below w.heap.size w W) hj ho => visit_draws fn first caps w l N cnt HCO.out (w.heap.size + 1 + 1) w.heap.size (w.heap.size + 1 + 1 + 1) ⟨by omega, by omega⟩ N l [] p k cp (w.heap.size + 1 + 1 + 1 + 1) 0 0 0 0 W HK.out hkc hcp rfl (Nat.zero_add _) hN (Nat.le_refl _) (by simp) hb HR.out hj ho ⟨by omega, by omega, by omega⟩ ⟨by omega, by have := HT.out; omega⟩ ⟨by omega, by have := HD.out; omega⟩)
  have HT2 := HT.out
  have HD2 := HD.out
  generalize hT : tot cnt N l [] = T at *
  generalize hD : cho k N = D at *
  clear hT hD
  have HFr := Lib.hid (fun w (h : 0 < D) => fraction_ T D w h HT2 HD2)
  obtain ⟨r, hr⟩ : ∃ r, mdR T D = r := ⟨_, rfl⟩
  have HRr := Lib.hid hr
  rw [hr]
  clear hr
  obtain ⟨TI, hTI⟩ : ∃ TI : Int, TI = (T : Int) := ⟨_, rfl⟩
  obtain ⟨DI, hDI⟩ : ∃ DI : Int, DI = (D : Int) := ⟨_, rfl⟩
  rw [Int.zero_add, Int.zero_add, ← hTI, ← hDI] at HV
  rw [← hTI, ← hDI] at HFr
  go_enter Try.func100, Try.ntmps100
  go_wp2_with fail
  refine (HV.out _ HB.out ⟨KS.out, KD.out, KF.out, by omega⟩ KO.out).mono ?_
  rintro e w1 ⟨rfl, hJ, ht, _⟩
  have KR1 : Hid (VB w1 (w.heap.size + 1) 31 (fv (0, 0))) := Lib.hid ((ht.block (w.heap.size + 1) KR.out.lt (by omega)).trans KR.out)
  have HB1 := Lib.hid (Turn.below HB.out HB.out.size ht (fun j hj => by omega))
  have c0 : w1.cell? ⟨w.heap.size + 1 + 1, 0, none⟩ = some (.int .i64 TI) := VB.at_ hJ.s0 (j := 0) rfl
  have c1 : w1.cell? ⟨w.heap.size + 1 + 1 + 1, 0, none⟩ = some (.int .i64 DI) := VB.at_ hJ.d0 (j := 0) rfl
  clear KF KR KS KD KO HB hJ ht
  by_cases h0 : D = 0
  · have e1 : DI = 0 := by omega
    subst e1
    have HM : Hid (mdR T D = ((0, 0), false)) := Lib.hid (if_pos h0)
    clear HFr hDI h0 hTI HT2 HD2
    go_wp2_with ((with_reducible refine store_a2 rfl _ _ rfl KR1.out ?_ (0, 0) ?_ ?_); rfl; rfl; intro w2 hM hG)
    try simp only [Exit.inBlock, Exit.then]
    refine bodyPost_ret (res_vb2 Try.results100 rfl hM Try.underlying31 (a2_info rfl)) rfl ?_
    exact ⟨by rw [← HRr.out, HM.out]; rfl, HB1.out.grown hG HB1.out.size (fun k hk => by injection hk with hk; omega)⟩
  · have e1 : ¬ DI = 0 := by omega
    have e2 : (DI == 0) = false := by simp only [beq_eq_false_iff_ne, ne_eq]; exact e1
    have HM : Hid (mdR T D = (frac T D, true)) := Lib.hid (if_neg h0)
    have HFr2 := Lib.hid (fun w => HFr.out w (by omega))
    generalize frac T D = fr at *
    clear HFr hDI h0 hTI HT2 HD2
    go_wp2_with fail
    refine (HFr2.out _).mono ?_
    rintro e w2 ⟨rfl, b⟩
    have KR2 := Lib.hid (KR1.out.below b)
    have HB2 := Lib.hid (HB1.out.trans (b.mono HB1.out.size))
    clear KR1 HB1 b c0 c1
    go_wp2_with ((with_reducible refine store_a2 rfl _ _ rfl KR2.out ?_ fr ?_ ?_); rfl; rfl; intro w3 hM hG)
    try simp only [Exit.inBlock, Exit.then]
    refine bodyPost_ret (res_vb2 Try.results100 rfl hM Try.underlying31 (a2_info rfl)) rfl ?_
    exact ⟨by rw [← HRr.out, HM.out]; rfl, HB2.out.grown hG HB2.out.size (fun k hk => by injection hk with hk; omega)⟩

/-- What a function value tells of the draws of n of l. -/
structure FitAt (fn : FuncId) (first caps : Array Value) (w0 : World) (l : List Cd) (n : Nat) (fit : List Cd → Bool) : Prop where
  go : ∀ (args : Array Value) (w : World), (callFunc fn args).run Try.prog w = .ok (.enter fn args) w
  call : ∀ (w : World) (ps : List Cd) (g m c : Nat), Below w0.heap.size w0 w → Rd w (some ⟨g, 0, none⟩) (flat ps) → ps.Sublist l → ps.length = m → m = n → m ≤ c →
    Calls Try.prog fn (first.push (.slice (some ⟨g, 0, none⟩) m c) ++ caps) w fun e w' => e = .returned (.bool (fit ps)) ∧ Below w.heap.size w w'
theorem FitAt.later {fn : FuncId} {first caps : Array Value} {w0 w1 : World} {l : List Cd} {n : Nat} {fit : List Cd → Bool} (h : FitAt fn first caps w0 l n fit) (b : Below w0.heap.size w0 w1) : FitAt fn first caps w1 l n fit :=
  ⟨h.go, fun w ps g m c hb => h.call w ps g m c (b.trans (hb.mono b.size))⟩
def nat (b : Bool) : Nat := if b then 1 else 0
theorem nat_le (b : Bool) : nat b ≤ 1 := by cases b <;> decide

set_option maxRecDepth 100000 in
set_option maxHeartbeats 2000000 in
theorem fit_counts (fn : FuncId) (first caps : Array Value) (w0 : World) (l : List Cd) (n : Nat) (fit : List Cd → Bool) (gq : Nat) (h : FitAt fn first caps w0 l n fit) (hq : VB w0 gq 37 #[.func (.func fn) first caps]) :
    CountAt 101 #[] #[.pointer (some ⟨gq, 0, none⟩)] w0 l n (fun d => nat (fit d)) := by
  refine ⟨fun args w => by kernel_rfl, fun w ps g m c hb hr hsub hm hn hmc => ?_⟩
  have HC := Lib.hid (fun w' (hb : Below w0.heap.size w0 w') hr => h.call w' ps g m c hb hr hsub hm hn hmc)
  have HB := Lib.hid hb
  have HR := Lib.hid hr
  have c0 : w.cell? ⟨gq, 0, none⟩ = some (.func (.func fn) first caps) := VB.at_ (hq.under hq.lt hb) (j := 0) rfl
  have hgo := h.go
  clear h hq hb hr hsub hm hn hmc
  show Calls Try.prog 101 #[.slice (some ⟨g, 0, none⟩) m c, .pointer (some ⟨gq, 0, none⟩)] w _
  cases hf : fit ps
  · rw [hf] at HC
    go_enter Try.func101, Try.ntmps101
    go_wp2_with fail
    refine (HC.out _ HB.out HR.out).mono ?_
    rintro e w1 ⟨rfl, b⟩
    go_wp2_with fail
    go_ret
    exact ⟨by simp [nat], b⟩
  · rw [hf] at HC
    go_enter Try.func101, Try.ntmps101
    go_wp2_with fail
    refine (HC.out _ HB.out HR.out).mono ?_
    rintro e w1 ⟨rfl, b⟩
    go_wp2_with fail
    go_ret
    exact ⟨by simp [nat], b⟩

set_option maxRecDepth 100000 in
set_option maxHeartbeats 4000000 in
theorem chance_drawn (fn : FuncId) (first caps : Array Value) (w : World) (l : List Cd) (N : Nat) (fit : List Cd → Bool) (HC : FitAt fn first caps w l N fit) (p : Option Addr) (k cp : Nat) (hk : l.length = k) (hkc : k ≤ cp) (hcp : k ≤ 1000000) (hN : N ≤ 1000) (hr : Rd w p (flat l)) (hD : cho k N ≤ 1000000000000000) :
    Calls Try.prog 54 #[.slice p k cp, .int .i64 N, .func (.func fn) first caps] w fun e w' => e = .returned (.tuple #[.agg (fv (mdR (tot (fun d => nat (fit d)) N l []) (cho k N)).1), .bool (mdR (tot (fun d => nat (fit d)) N l []) (cho k N)).2]) ∧ Below w.heap.size w w' := by
  have KF : Hid (VB ((w.alloc (.cells #[.func (.func fn) first caps] 37)).alloc (.cells #[.int .i64 0, .int .i64 0] 31)) w.heap.size 37 #[.func (.func fn) first caps]) := Lib.hid ((VB.newAt rfl rfl).alloc _)
  have KR : Hid (VB ((w.alloc (.cells #[.func (.func fn) first caps] 37)).alloc (.cells #[.int .i64 0, .int .i64 0] 31)) (w.heap.size + 1) 31 (fv (0, 0))) := Lib.hid (VB.newAt (by simp) rfl)
  have HB : Hid (Below w.heap.size w ((w.alloc (.cells #[.func (.func fn) first caps] 37)).alloc (.cells #[.int .i64 0, .int .i64 0] 31))) := Lib.hid (by
    have b1 := (Below.refl w.heap.size w).alloc (Nat.le_refl _) (.cells #[.func (.func fn) first caps] 37)
    exact b1.alloc b1.size (.cells #[.int .i64 0, .int .i64 0] 31))
  have hT : tot (fun d => nat (fit d)) N l [] ≤ 1000000000000000 := by
    have h := tot_le (fun d => nat (fit d)) 1 (fun d => nat_le _) N l []
    rw [hk] at h
    omega
  have HV := Lib.hid (fun W (hf : FitAt fn first caps W l N fit) hq hr => mean_drawn 101 #[] #[.pointer (some ⟨w.heap.size, 0, none⟩)] W l N (fun d => nat (fit d)) (fit_counts fn first caps W l N fit w.heap.size hf hq) p k cp hk hkc hcp hN hr hT hD)
  have HFt := Lib.hid (HC.later HB.out)
  have HR := Lib.hid (Rd.below hr HB.out)
  generalize mdR (tot (fun d => nat (fit d)) N l []) (cho k N) = r at *
  obtain ⟨fr, ok⟩ := r
  clear hT hD HC hr hk
  dsimp only at HV ⊢
  go_enter Try.func54, Try.ntmps54
  go_wp2_with fail
  refine (HV.out _ HFt.out KF.out HR.out).mono ?_
  rintro e w1 ⟨rfl, b⟩
  have KR1 := Lib.hid (KR.out.below b)
  have HB1 := Lib.hid (HB.out.trans (b.mono HB.out.size))
  clear KR HB b KF HFt HR
  go_wp2_with ((with_reducible refine store_a2 rfl _ _ rfl KR1.out ?_ fr ?_ ?_); rfl; rfl; intro w3 hM hG)
  try simp only [Exit.inBlock, Exit.then]
  refine bodyPost_ret (res_vb2 Try.results54 rfl hM Try.underlying31 (a2_info rfl)) rfl ?_
  exact ⟨rfl, HB1.out.grown hG HB1.out.size (fun k hk => by injection hk with hk; omega)⟩
end Go.Proofs.Ytjanphcfflahkaa.chance
