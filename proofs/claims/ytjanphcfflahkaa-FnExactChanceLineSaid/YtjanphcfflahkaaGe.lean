/- ChanceLine and MeanDiffer: the program's. -/
import Derived.Test.YtjanphcfflahkaaGd
namespace Go.Proofs.Ytjanphcfflahkaa.chance
open Go.RowKit
open cards reg
set_option linter.unusedVariables false

/-- What ChanceLine returns, and MeanDiffer. -/
noncomputable def clR (l : List Cd) : (Int × Int) × Bool := if handB l = true then mdR (tot (fun d => nat (line3 d)) 3 l []) (cho l.length 3) else ((0, 0), false)
noncomputable def mfR (l : List Cd) : (Int × Int) × Bool := if handB l = true then mdR (tot dif2 2 l []) (cho l.length 2) else ((0, 0), false)
theorem dif2_le : ∀ d : List Cd, dif2 d ≤ 4
  | [x, y] => by have := dif_nn x y; simp only [dif2]; omega
  | [] => by simp [dif2]
  | [_] => by simp [dif2]
  | _ :: _ :: _ :: _ => by simp [dif2]


set_option maxRecDepth 100000 in
set_option maxHeartbeats 2000000 in
theorem impl_chl (l : List Cd) (p : Option Addr) (n c : Nat) (w : World) (hn : l.length = n) (hl : n ≤ 1000000000) (hr : Rd w p (flat l)) (hcp : n ≤ c) :
    Calls Try.prog 19 #[.slice p n c] w fun e w' => e = .returned (.tuple #[.agg (fv (clR l).1), .bool (clR l).2]) ∧ Below w.heap.size w w' := by
  have K0 : Hid (VB (w.alloc (.cells (fv (0, 0)) 31)) w.heap.size 31 (fv (0, 0))) := Lib.hid (VB.newAt rfl rfl)
  have HN := Lib.hid hn
  have HR := Lib.hid hr
  clear hn hr
  cases hh : handB l
  · have HT : Hid (clR l = ((0, 0), false)) := Lib.hid (by unfold clR; rw [hh]; rfl)
    have HH := Lib.hid hh
    clear hh
    go_enter Try.func19, Try.ntmps19
    go_wp2_with fail
    refine ((is_hand l p n c _ HN.out hl (by repeat (first | with_reducible exact HR.out | with_reducible apply Rd.drewN | with_reducible apply Rd.drew | with_reducible apply Rd.alloc)))).mono ?_
    rintro e w1 ⟨rfl, b⟩
    have Sw1 := Lib.hid b.size
    have HB := Lib.hid (chain0 (w := w) (by repeat (first | with_reducible exact Below.refl _ _ | with_reducible exact HB.out | with_reducible apply Below.drew | with_reducible apply bdN | with_reducible refine Below.alloc ?_ (by first | exact Nat.le_refl _ | with_reducible exact HB.out.size | omega | (simp; done) | (simp; omega) | (have := HB.out.size; simp at *; omega)) _ | with_reducible refine Below.setCell ?_ (by first | exact Nat.le_refl _ | with_reducible exact HB.out.size | omega | (simp; done) | (simp; omega) | (have := HB.out.size; simp at *; omega)) _)) b)
    have HR := Lib.hid (Rd.below (by repeat (first | with_reducible exact HR.out | with_reducible apply Rd.drewN | with_reducible apply Rd.drew | with_reducible apply Rd.alloc)) b)
    have K0 := Lib.hid (VB.below (by repeat (first | with_reducible exact K0.out | with_reducible apply VB.drewN | with_reducible apply VB.drew | with_reducible apply VB.alloc)) b)
    clear b
    rw [HH.out]
    go_wp2_with ((with_reducible refine store_a2 rfl _ _ rfl K0.out ?_ (0, 0) ?_ ?_); rfl; rfl; intro w2 hM hG)
    try simp only [Exit.inBlock, Exit.then]
    refine bodyPost_ret (res_vb2 Try.results19 rfl hM Try.underlying31 (a2_info rfl)) rfl ?_
    exact ⟨by rw [HT.out]; rfl, HB.out.grown hG HB.out.size (fun k hk => by injection hk with hk; omega)⟩
  · have hHd := handB_true.1 hh
    have h27 : n ≤ 27 := by have := hHd.1; have := HN.out; omega
    have HC := Lib.hid (fun w (hr : Rd w p (flat l)) => chance_drawn 55 #[] #[] w l 3 line3 (fit_line w l hHd.2.1) p n c HN.out hcp (by omega) (by omega) hr (Nat.le_trans (cho_27 h27) (by omega)))
    have HH := Lib.hid hh
    obtain ⟨r, hR⟩ : ∃ r, clR l = r := ⟨_, rfl⟩
    have HRe : Hid (mdR (tot (fun d => nat (line3 d)) 3 l []) (cho n 3) = r) := Lib.hid (by rw [← hR]; unfold clR; rw [hh, HN.out]; rfl)
    rw [hR]
    rw [HRe.out] at HC
    clear hh hR
    obtain ⟨fr, ok⟩ := r
    dsimp only at HC ⊢
    have HW := Lib.hid hcp
    go_enter Try.func19, Try.ntmps19
    go_wp2_with fail
    refine ((is_hand l p n c _ HN.out hl (by repeat (first | with_reducible exact HR.out | with_reducible apply Rd.drewN | with_reducible apply Rd.drew | with_reducible apply Rd.alloc)))).mono ?_
    rintro e w1 ⟨rfl, b⟩
    have Sw1 := Lib.hid b.size
    have HB := Lib.hid (chain0 (w := w) (by repeat (first | with_reducible exact Below.refl _ _ | with_reducible exact HB.out | with_reducible apply Below.drew | with_reducible apply bdN | with_reducible refine Below.alloc ?_ (by first | exact Nat.le_refl _ | with_reducible exact HB.out.size | omega | (simp; done) | (simp; omega) | (have := HB.out.size; simp at *; omega)) _ | with_reducible refine Below.setCell ?_ (by first | exact Nat.le_refl _ | with_reducible exact HB.out.size | omega | (simp; done) | (simp; omega) | (have := HB.out.size; simp at *; omega)) _)) b)
    have HR := Lib.hid (Rd.below (by repeat (first | with_reducible exact HR.out | with_reducible apply Rd.drewN | with_reducible apply Rd.drew | with_reducible apply Rd.alloc)) b)
    have K0 := Lib.hid (VB.below (by repeat (first | with_reducible exact K0.out | with_reducible apply VB.drewN | with_reducible apply VB.drew | with_reducible apply VB.alloc)) b)
    clear b
    rw [HH.out]
    go_wp2_with fail
    refine ((HC.out _ (by repeat (first | with_reducible exact HR.out | with_reducible apply Rd.drewN | with_reducible apply Rd.drew | with_reducible apply Rd.alloc)))).mono ?_
    rintro e w2 ⟨rfl, b⟩
    have Sw2 := Lib.hid b.size
    have HB := Lib.hid (chain0 (w := w) (by repeat (first | with_reducible exact Below.refl _ _ | with_reducible exact HB.out | with_reducible apply Below.drew | with_reducible apply bdN | with_reducible refine Below.alloc ?_ (by first | exact Nat.le_refl _ | with_reducible exact HB.out.size | omega | (simp; done) | (simp; omega) | (have := HB.out.size; simp at *; omega)) _ | with_reducible refine Below.setCell ?_ (by first | exact Nat.le_refl _ | with_reducible exact HB.out.size | omega | (simp; done) | (simp; omega) | (have := HB.out.size; simp at *; omega)) _)) b)
    have HR := Lib.hid (Rd.below (by repeat (first | with_reducible exact HR.out | with_reducible apply Rd.drewN | with_reducible apply Rd.drew | with_reducible apply Rd.alloc)) b)
    have K0 := Lib.hid (VB.below (by repeat (first | with_reducible exact K0.out | with_reducible apply VB.drewN | with_reducible apply VB.drew | with_reducible apply VB.alloc)) b)
    clear b
    go_wp2_with ((with_reducible refine store_a2 rfl _ _ rfl K0.out ?_ fr ?_ ?_); rfl; rfl; intro w3 hM hG)
    try simp only [Exit.inBlock, Exit.then]
    refine bodyPost_ret (res_vb2 Try.results19 rfl hM Try.underlying31 (a2_info rfl)) rfl ?_
    exact ⟨rfl, HB.out.grown hG HB.out.size (fun k hk => by injection hk with hk; omega)⟩


end Go.Proofs.Ytjanphcfflahkaa.chance
