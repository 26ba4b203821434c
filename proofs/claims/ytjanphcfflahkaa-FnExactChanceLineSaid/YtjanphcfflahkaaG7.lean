/- What is counted of each draw: the closure of meanDrawn. -/
import Derived.Test.YtjanphcfflahkaaG2
import Derived.Test.YtjanphcfflahkaaPs
import Derived.Test.YtjanphcfflahkaaZx
namespace Go.Proofs.Ytjanphcfflahkaa.chance
open Go.RowKit
open cards reg
set_option linter.unusedVariables false

/-- What a function value counts of the draws of n of l, at worlds that hold what w0 held. -/
structure CountAt (fn : FuncId) (first caps : Array Value) (w0 : World) (l : List Cd) (n : Nat) (cnt : List Cd → Nat) : Prop where
  go : ∀ (args : Array Value) (w : World), (callFunc fn args).run Try.prog w = .ok (.enter fn args) w
  call : ∀ (w : World) (ps : List Cd) (g m c : Nat), Below w0.heap.size w0 w → Rd w (some ⟨g, 0, none⟩) (flat ps) → ps.Sublist l → ps.length = m → m = n → m ≤ c →
    Calls Try.prog fn (first.push (.slice (some ⟨g, 0, none⟩) m c) ++ caps) w fun e w' => e = .returned (.int .i64 (cnt ps : Nat)) ∧ Below w.heap.size w w'
/-- The sum, what counts and the number of draws, in blocks of their own. -/
structure Sums (w : World) (gs gf gd : Nat) (cv : Value) (s d : Int) : Prop where
  s0 : VB w gs 3 #[.int .i64 s]
  d0 : VB w gd 3 #[.int .i64 d]
  f0 : VB w gf 110 #[cv]
  ne : gs ≠ gd ∧ gs ≠ gf ∧ gd ≠ gf
theorem Sums.below {w w1 : World} {gs gf gd : Nat} {cv : Value} {s d : Int} (h : Sums w gs gf gd cv s d) (b : Below w.heap.size w w1) : Sums w1 gs gf gd cv s d := ⟨h.s0.below b, h.d0.below b, h.f0.below b, h.ne⟩
theorem Sums.addS {w : World} {gs gf gd : Nat} {cv : Value} {s d : Int} (h : Sums w gs gf gd cv s d) (x : Int) : Sums (w.setCell ⟨gs, 0, none⟩ (.int .i64 x)) gs gf gd cv x d :=
  ⟨VB.set_ h.s0 rfl, VB.far h.d0 (Ne.symm h.ne.1) _, VB.far h.f0 (Ne.symm h.ne.2.1) _, h.ne⟩
theorem Sums.addD {w : World} {gs gf gd : Nat} {cv : Value} {s d : Int} (h : Sums w gs gf gd cv s d) (x : Int) : Sums (w.setCell ⟨gd, 0, none⟩ (.int .i64 x)) gs gf gd cv s x :=
  ⟨VB.far h.s0 h.ne.1 _, VB.set_ h.d0 rfl, VB.far h.f0 (Ne.symm h.ne.2.2) _, h.ne⟩
theorem Sums.by_ {w w1 : World} {gs gf gd : Nat} {cv : Value} {s d : Int} {S : Nat → Prop} (h : Sums w gs gf gd cv s d) (b : Turn S w w1) (h1 : ¬ S gs) (h2 : ¬ S gd) (h3 : ¬ S gf) : Sums w1 gs gf gd cv s d :=
  ⟨(b.block _ h.s0.lt h1).trans h.s0, (b.block _ h.d0.lt h2).trans h.d0, (b.block _ h.f0.lt h3).trans h.f0, h.ne⟩

set_option maxRecDepth 100000 in
set_option maxHeartbeats 2000000 in
theorem visit_one (fn : FuncId) (first caps : Array Value) (w0 : World) (l : List Cd) (n : Nat) (cnt : List Cd → Nat) (HC : CountAt fn first caps w0 l n cnt) (gs gf gd : Nat) (s d : Int) (ps : List Cd) (g m c : Nat) (w : World)
    (hw : Below w0.heap.size w0 w) (hr : Rd w (some ⟨g, 0, none⟩) (flat ps)) (hsub : ps.Sublist l) (hm : ps.length = m) (hn : m = n) (hmc : m ≤ c) (hJ : Sums w gs gf gd (.func (.func fn) first caps) s d) (hs : 0 ≤ s ∧ s + cnt ps ≤ 1000000000000000) (hd : 0 ≤ d ∧ d + 1 ≤ 1000000000000000) :
    Calls Try.prog 125 #[.slice (some ⟨g, 0, none⟩) m c, .pointer (some ⟨gs, 0, none⟩), .pointer (some ⟨gf, 0, none⟩), .pointer (some ⟨gd, 0, none⟩)] w fun e w' => e = .returned (.tuple #[]) ∧ Sums w' gs gf gd (.func (.func fn) first caps) (s + cnt ps) (d + 1) ∧ Turn (fun j => j = gs ∨ j = gd) w w' := by
  have HCL := Lib.hid (fun w hw hr => HC.call w ps g m c hw hr hsub hm hn hmc)
  have hgo := HC.go
  have HR := Lib.hid hr
  have HW := Lib.hid hw
  have HJ := Lib.hid hJ
  generalize hk : (cnt ps : Int) = k at *
  have hk0 : 0 ≤ k := by omega
  have c0 := VB.at_ hJ.s0 (j := 0) rfl
  have c1 := VB.at_ hJ.d0 (j := 0) rfl
  have c2 := VB.at_ hJ.f0 (j := 0) rfl
  have f0 := VB.frozen hJ.s0
  clear hr hw hJ hsub hm hn hmc HC hk
  go_enter Try.func125, Try.ntmps125
  go_upto_region 0 with fail
  go_region_with (refine Calls.mono (HCL.out _ (by first | exact HW.out | exact HW.out.drew) (by exact HR.out)) ?_; rintro e w1 ⟨rfl, b0⟩; have b := chain0 (w := w) (by first | exact Below.refl _ _ | exact (Below.refl _ _).drew) b0; clear b0; have HJ1 := Lib.hid (Sums.below HJ.out b); have HT1 := Lib.hid (Turn.of_below b); clear c0 c1 c2 f0 b; have c0 := VB.at_ HJ1.out.s0 (j := 0) rfl; have c1 := VB.at_ HJ1.out.d0 (j := 0) rfl; have c2 := VB.at_ HJ1.out.f0 (j := 0) rfl; have f0 := VB.frozen HJ1.out.s0)
  all_goals
    have e1 : IntKind.i64.wrap (s + k) = s + k := IntWalk.i64_in _ (by omega)
    have e2 : IntKind.i64.wrap (d + 1) = d + 1 := IntWalk.i64_in _ (by omega)
    rw [e1]
    have HJ2 := Lib.hid (HJ1.out.addS (s + k))
    have HT2 : Hid (Turn (fun j => j = gs ∨ j = gd) w (w1.setCell ⟨gs, 0, none⟩ (.int .i64 (s + k)))) := Lib.hid ((HT1.out.weak (fun _ _ h => h.elim)).trans ((Turn.of_grown (grown_setV w1 gs 0 _)).weak (fun j _ h => by injection h with h; exact .inl h)))
    clear c0 c1 c2 f0 HJ1 HT1
    generalize w1.setCell ⟨gs, 0, none⟩ (.int .i64 (s + k)) = w2 at *
    have c1 := VB.at_ HJ2.out.d0 (j := 0) rfl
    have f1 := VB.frozen HJ2.out.d0
    go_wp2_with fail
    go_end0
    exact ⟨rfl, HJ2.out.addD (d + 1), HT2.out.trans ((Turn.of_grown (grown_setV w2 gd 0 _)).weak (fun j _ h => by injection h with h; exact .inr h))⟩
end Go.Proofs.Ytjanphcfflahkaa.chance
