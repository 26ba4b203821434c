/- LinesAt: the program's and the model's. -/
import Derived.Test.YtnibkipepmakgaaZh
import Derived.Test.YtnibkipepmakgaaZj
import Derived.Test.YtnibkipepmakgaaZe
namespace Go.Proofs.Ytnibkipepmakgaa.parting
open Go.RowKit
open cards maps
set_option linter.unusedVariables false

set_option maxRecDepth 100000 in
set_option maxHeartbeats 2000000 in
theorem at_fun (x : A3) (i : Int) (gi : Nat) (w : World) (hi : IBox w gi i) :
    Calls Try.prog 22 #[x.val, .pointer (some ⟨gi, 0, none⟩)] w fun e w' => e = .returned (.bool (!inL x i)) ∧ Below w.heap.size w w' := by
  have HI := Lib.hid hi
  clear hi
  go_enter Try.func22, Try.ntmps22
  go_wp2_with fail
  obtain ⟨w1, ew, b⟩ : ∃ wOPN : World, wOPN = (w.alloc x.obj) ∧ Below ((w.alloc x.obj)).heap.size ((w.alloc x.obj)) wOPN := ⟨_, rfl, Below.refl _ _⟩
  rw [← ew]
  clear ew
  have Sw1 := Lib.hid b.size
  have HB := Lib.hid (chain0 (w := w) (by repeat (first | with_reducible exact Below.refl _ _ | with_reducible exact HB.out | with_reducible apply Below.drew | with_reducible apply bdN | with_reducible refine Below.alloc ?_ (by first | exact Nat.le_refl _ | with_reducible exact HB.out.size | omega | (simp; done) | (simp; omega) | (have := HB.out.size; simp at *; omega)) _ | with_reducible refine Below.setCell ?_ (by first | exact Nat.le_refl _ | with_reducible exact HB.out.size | omega | (simp; done) | (simp; omega) | (have := HB.out.size; simp at *; omega)) _)) b)
  have HI := Lib.hid (IBox.below (by repeat (first | with_reducible exact HI.out | with_reducible apply IBox.drewN | with_reducible apply IBox.drew | with_reducible apply IBox.alloc)) b)
  have K0 : Hid (TBox _ (w.heap.size) (x)) := Lib.hid (TBox.below (by repeat (first | with_reducible exact K0.out | with_reducible apply TBox.drewN | with_reducible apply TBox.drew | (with_reducible refine TBox.newAt ?_ ?_ <;> first | (simp; done) | rfl) | with_reducible apply TBox.alloc)) b)
  try clear k0a k0b k0c k0d k0z
  have k0z := K0.out.lt
  obtain ⟨k0a, k0b, k0c, k0d⟩ := K0.out.cell
  clear b
  have c0 := HI.out.cell
  have HC : Hid (∀ w', Below w1.heap.size w1 w' → Calls Try.prog 23 #[.slice (some ⟨w.heap.size, 0, none⟩) 3 3, .int .i64 i] w' fun e w2 => e = .returned (.bool (inL x i)) ∧ Below w'.heap.size w' w2) := Lib.hid (fun w' hb => (contains_int [x.a, x.b, x.c] i (some ⟨w.heap.size, 0, none⟩) 3 3 w' rfl (by omega) (K0.out.below hb).rd).mono fun e w2 ⟨he, h2⟩ => ⟨he.trans (ret_bool (mem3 x i)), h2⟩)
  have qk0a := fun d os => cell_regrown k0a d os
  have qk0b := fun d os => cell_regrown k0b d os
  have qk0c := fun d os => cell_regrown k0c d os
  have qc0 := fun d os => cell_regrown c0 d os
  refine wp_region_quiet_below (by kernel_rfl) (by kernel_rfl) ?_
  repeat (first | go_big_quiet_step ((go_at_call 23; with_reducible exact Calls.regrown_of (HC.out _ (below_regrown _ _ _)))) | quiet_step ((go_at_call 23; with_reducible exact Calls.regrown_of (HC.out _ (below_regrown _ _ _)))))
  refine wpQuiet_nil ?_
  intro w2 hw2
  have b : Below w1.heap.size w1 w2 := by obtain ⟨r, hr⟩ := hw2; rw [hr]; exact below_regrown _ _ _
  clear hw2 qc0 qk0a qk0b qk0c
  have Sw2 := Lib.hid b.size
  have HB := Lib.hid (chain0 (w := w) (by repeat (first | with_reducible exact Below.refl _ _ | with_reducible exact HB.out | with_reducible apply Below.drew | with_reducible apply bdN | with_reducible refine Below.alloc ?_ (by first | exact Nat.le_refl _ | with_reducible exact HB.out.size | omega | (simp; done) | (simp; omega) | (have := HB.out.size; simp at *; omega)) _ | with_reducible refine Below.setCell ?_ (by first | exact Nat.le_refl _ | with_reducible exact HB.out.size | omega | (simp; done) | (simp; omega) | (have := HB.out.size; simp at *; omega)) _)) b)
  have HI := Lib.hid (IBox.below (by repeat (first | with_reducible exact HI.out | with_reducible apply IBox.drewN | with_reducible apply IBox.drew | with_reducible apply IBox.alloc)) b)
  have K0 : Hid (TBox _ (w.heap.size) (x)) := Lib.hid (TBox.below (by repeat (first | with_reducible exact K0.out | with_reducible apply TBox.drewN | with_reducible apply TBox.drew | (with_reducible refine TBox.newAt ?_ ?_ <;> first | (simp; done) | rfl) | with_reducible apply TBox.alloc)) b)
  try clear k0a k0b k0c k0d k0z
  have k0z := K0.out.lt
  obtain ⟨k0a, k0b, k0c, k0d⟩ := K0.out.cell
  clear b
  go_wp2_with fail
  go_ret
  exact ⟨rfl, HB.out⟩

noncomputable def laR (l : List Cd) (i : Int) : List A3 × Bool := if handB l = true ∧ (0 ≤ i ∧ i < (l.length : Int)) then (withP (allL l l.length) i, true) else ([], false)
theorem laR_no {l : List Cd} {i : Int} (h : ¬ (handB l = true ∧ (0 ≤ i ∧ i < (l.length : Int)))) : laR l i = ([], false) := by unfold laR; rw [if_neg h]
theorem laR_yes {l : List Cd} {i : Int} (h : handB l = true) (h0 : 0 ≤ i) (h1 : i < (l.length : Int)) : laR l i = (withP (allL l l.length) i, true) := by unfold laR; rw [if_pos ⟨h, h0, h1⟩]
theorem laR_len (l : List Cd) (i : Int) : (laR l i).1.length ≤ 100000000 := by
  unfold laR
  split
  · rename_i h
    have h1 := lines_len (handB_true.1 h.1)
    have h2 := withP_len (allL l l.length) i
    show (withP (allL l l.length) i).length ≤ _
    omega
  · simp

set_option maxRecDepth 100000 in
set_option maxHeartbeats 4000000 in
theorem impl_la (i : Int) (l : List Cd) (p : Option Addr) (n cp : Nat) (w : World) (hn : l.length = n) (hl : n ≤ 1000000000) (hr : Rd w p (flat l)) :
    Calls Try.prog 6 #[.slice p n cp, .int .i64 i] w fun e w' => ∃ u, e = .returned (.tuple #[u, .bool (laR l i).2]) ∧ OwnA3 w' w.heap.size u (laR l i).1 ∧ Below w.heap.size w w' := by
  have HN := Lib.hid hn
  have HR := Lib.hid hr
  have HI0 : Hid (IBox (w.alloc (.cells #[.int .i64 i] 3)) w.heap.size i) := Lib.hid (IBox.newAt rfl rfl)
  have HB : Hid (Below w.heap.size w (w.alloc (.cells #[.int .i64 i] 3))) := Lib.hid ((Below.refl _ _).alloc (Nat.le_refl _) _)
  clear hn hr
  go_enter Try.func6, Try.ntmps6
  go_wp2_with fail
  refine (impl_lin l p n cp _ HN.out hl (by repeat (first | with_reducible exact HR.out | with_reducible apply Rd.drewN | with_reducible apply Rd.drew | with_reducible apply Rd.alloc))).mono ?_
  rintro e w1 ⟨u1, rfl, hu, b⟩
  have HU := Lib.hid hu
  have Sw1 := Lib.hid b.size
  have HB := Lib.hid (chain0 (w := w) (by repeat (first | with_reducible exact Below.refl _ _ | with_reducible exact HB.out | with_reducible apply Below.drew | with_reducible apply bdN | with_reducible refine Below.alloc ?_ (by first | exact Nat.le_refl _ | with_reducible exact HB.out.size | omega | (simp; done) | (simp; omega) | (have := HB.out.size; simp at *; omega)) _ | with_reducible refine Below.setCell ?_ (by first | exact Nat.le_refl _ | with_reducible exact HB.out.size | omega | (simp; done) | (simp; omega) | (have := HB.out.size; simp at *; omega)) _)) b)
  have HR := Lib.hid (Rd.below (by repeat (first | with_reducible exact HR.out | with_reducible apply Rd.drewN | with_reducible apply Rd.drew | with_reducible apply Rd.alloc)) b)
  have HI0 := Lib.hid (IBox.below (by repeat (first | with_reducible exact HI0.out | with_reducible apply IBox.drewN | with_reducible apply IBox.drew | with_reducible apply IBox.alloc)) b)
  clear b
  have HSz := Lib.hid HB.out.size
  have HIz := Lib.hid HI0.out.lt
  have c0 := HI0.out.cell
  clear hu
  cases hh : handB l
  · have HT := Lib.hid (laR_no (l := l) (i := i) (by simp [hh]))
    have hl2 : (linR l).2 = false := by unfold linR; rw [if_neg (by simp [hh])]
    rw [hl2]
    clear hl2 hh
    go_wp2_with fail
    go_ret2
    exact ⟨_, ret_two (by rw [HT.out]), by rw [HT.out]; exact OwnA3.empty _ _ HB.out.size, by repeat (first | with_reducible exact Below.refl _ _ | with_reducible exact HB.out | with_reducible apply Below.drew | with_reducible apply bdN | with_reducible refine Below.alloc ?_ (by first | exact Nat.le_refl _ | with_reducible exact HB.out.size | omega | (simp; done) | (simp; omega) | (have := HB.out.size; simp at *; omega)) _ | with_reducible refine Below.setCell ?_ (by first | exact Nat.le_refl _ | with_reducible exact HB.out.size | omega | (simp; done) | (simp; omega) | (have := HB.out.size; simp at *; omega)) _)⟩
  · have hlr : linR l = (allL l n, true) := by unfold linR; rw [if_pos hh, HN.out]
    have hlen := lines_len (handB_true.1 hh)
    rw [HN.out] at hlen
    rw [hlr] at HU ⊢
    by_cases hi : 0 ≤ i ∧ i < (n : Int)
    · obtain ⟨i0, i1⟩ := hi
      have HT := Lib.hid (laR_yes hh i0 (by rw [HN.out]; exact i1))
      rw [HN.out] at HT
      obtain ⟨A, hA⟩ : ∃ A, allL l n = A := ⟨_, rfl⟩
      rw [hA] at HT HU hlen
      replace hlen := Lib.hid hlen
      clear hlr hh hA
      have HD := Lib.hid (delete_fun3 22 (.pointer (some ⟨w.heap.size, 0, none⟩)) (fun x => !inL x i) (fun w' => IBox w' w.heap.size i) A _ u1 w1 (by have := hlen.out; omega) HU.out HI0.out (fun a b h hb => h.below hb) (fun a b h hg => by
          refine (hg.block w.heap.size h.lt (fun e => ?_)).trans h
          have := (HU.out.span _ e.symm).1
          simp at this; omega) (fun _ _ => rfl) (fun x w' h => at_fun x i w.heap.size w' h))
      have HF : Hid (A.filter (fun x => !(fun x => !inL x i) x) = withP A i) := Lib.hid (by unfold withP; congr 1; funext x; simp)
      rw [HF.out] at HD
      go_wp2_with fail
      refine (HD.out).mono ?_
      rintro e w2 ⟨u2, rfl, ho2, hg2⟩
      have HO2 := Lib.hid ho2
      have HB2 : Hid (Below w.heap.size w w2) := Lib.hid (Below.grown HB.out hg2 HB.out.size (fun k hk => by have := (HU.out.span _ hk).1; simp at this; omega))
      clear ho2 hg2
      go_wp2_with fail
      go_ret2
      exact ⟨_, ret_two (by rw [HT.out]), by rw [HT.out]; exact OwnA3.base HO2.out (by simp), HB2.out⟩
    · have HT := Lib.hid (laR_no (l := l) (i := i) (by rw [HN.out]; exact fun h => hi h.2))
      clear hlr hh hlen
      have hor : i < 0 ∨ (0 ≤ i ∧ (n : Int) ≤ i) := by omega
      clear hi
      rcases hor with h | ⟨h0, h1⟩
      · go_wp2_with fail
        go_ret2
        exact ⟨_, ret_two (by rw [HT.out]), by rw [HT.out]; exact OwnA3.empty _ _ HB.out.size, by repeat (first | with_reducible exact Below.refl _ _ | with_reducible exact HB.out | with_reducible apply Below.drew | with_reducible apply bdN | with_reducible refine Below.alloc ?_ (by first | exact Nat.le_refl _ | with_reducible exact HB.out.size | omega | (simp; done) | (simp; omega) | (have := HB.out.size; simp at *; omega)) _ | with_reducible refine Below.setCell ?_ (by first | exact Nat.le_refl _ | with_reducible exact HB.out.size | omega | (simp; done) | (simp; omega) | (have := HB.out.size; simp at *; omega)) _)⟩
      · go_wp2_with fail
        go_ret2
        exact ⟨_, ret_two (by rw [HT.out]), by rw [HT.out]; exact OwnA3.empty _ _ HB.out.size, by repeat (first | with_reducible exact Below.refl _ _ | with_reducible exact HB.out | with_reducible apply Below.drew | with_reducible apply bdN | with_reducible refine Below.alloc ?_ (by first | exact Nat.le_refl _ | with_reducible exact HB.out.size | omega | (simp; done) | (simp; omega) | (have := HB.out.size; simp at *; omega)) _ | with_reducible refine Below.setCell ?_ (by first | exact Nat.le_refl _ | with_reducible exact HB.out.size | omega | (simp; done) | (simp; omega) | (have := HB.out.size; simp at *; omega)) _)⟩

set_option maxRecDepth 100000 in
set_option maxHeartbeats 4000000 in
theorem spec_la (i : Int) (l : List Cd) (p : Option Addr) (n cp : Nat) (w : World) (hn : l.length = n) (hl : n ≤ 1000000000) (hr : Rd w p (flat l)) :
    Calls Try.prog 7 #[.slice p n cp, .int .i64 i] w fun e w' => ∃ u, e = .returned (.tuple #[u, .bool (laR l i).2]) ∧ OwnA3 w' w.heap.size u (laR l i).1 ∧ Below w.heap.size w w' := by
  have HN := Lib.hid hn
  have HR := Lib.hid hr
  clear hn hr
  go_enter Try.func7, Try.ntmps7
  go_wp2_with fail
  refine ((l2_hand l p n cp _ HN.out hl (by repeat (first | with_reducible exact HR.out | with_reducible apply Rd.drewN | with_reducible apply Rd.drew | with_reducible apply Rd.alloc)))).mono ?_
  rintro e w1 ⟨rfl, b⟩
  have Sw1 := Lib.hid b.size
  have HB := Lib.hid (chain0 (w := w) (by repeat (first | with_reducible exact Below.refl _ _ | with_reducible exact HB.out | with_reducible apply Below.drew | with_reducible apply bdN | with_reducible refine Below.alloc ?_ (by first | exact Nat.le_refl _ | with_reducible exact HB.out.size | omega | (simp; done) | (simp; omega) | (have := HB.out.size; simp at *; omega)) _ | with_reducible refine Below.setCell ?_ (by first | exact Nat.le_refl _ | with_reducible exact HB.out.size | omega | (simp; done) | (simp; omega) | (have := HB.out.size; simp at *; omega)) _)) b)
  have HR := Lib.hid (Rd.below (by repeat (first | with_reducible exact HR.out | with_reducible apply Rd.drewN | with_reducible apply Rd.drew | with_reducible apply Rd.alloc)) b)
  clear b
  have HSz := Lib.hid HB.out.size
  cases hh : handB l
  · have HT := Lib.hid (laR_no (l := l) (i := i) (by simp [hh]))
    clear hh
    go_wp2_with fail
    go_ret2
    exact ⟨_, ret_two (by rw [HT.out]), by rw [HT.out]; exact OwnA3.empty _ _ HB.out.size, by repeat (first | with_reducible exact Below.refl _ _ | with_reducible exact HB.out | with_reducible apply Below.drew | with_reducible apply bdN | with_reducible refine Below.alloc ?_ (by first | exact Nat.le_refl _ | with_reducible exact HB.out.size | omega | (simp; done) | (simp; omega) | (have := HB.out.size; simp at *; omega)) _ | with_reducible refine Below.setCell ?_ (by first | exact Nat.le_refl _ | with_reducible exact HB.out.size | omega | (simp; done) | (simp; omega) | (have := HB.out.size; simp at *; omega)) _)⟩
  · have HH := Lib.hid (handB_true.1 hh)
    have h27 : n ≤ 27 := by have := HH.out.1; have := HN.out; omega
    by_cases hi : 0 ≤ i ∧ i < (n : Int)
    · obtain ⟨i0, i1⟩ := hi
      have HT := Lib.hid (laR_yes hh i0 (by rw [HN.out]; exact i1))
      have hlen := lines_len HH.out
      rw [HN.out] at HT hlen
      have HL := l2_lines l p n cp w1 HN.out h27 HR.out HH.out.2.1 HH.out.2.2
      obtain ⟨A, hA⟩ : ∃ A, allL l n = A := ⟨_, rfl⟩
      rw [hA] at HT HL hlen
      replace HL := Lib.hid HL
      replace hlen := Lib.hid hlen
      clear hh hA
      go_wp2_with fail
      refine (in_yes i 0 ((n : Int) - 1) _ (by omega) (by omega)).mono ?_
      rintro e w' ⟨rfl, rfl⟩
      go_wp2_with fail
      refine (HL.out).mono ?_
      rintro e w2 ⟨u, rfl, hu, b⟩
      have HU := Lib.hid hu
      have Sw2 := Lib.hid b.size
      have HB := Lib.hid (chain0 (w := w) (by repeat (first | with_reducible exact Below.refl _ _ | with_reducible exact HB.out | with_reducible apply Below.drew | with_reducible apply bdN | with_reducible refine Below.alloc ?_ (by first | exact Nat.le_refl _ | with_reducible exact HB.out.size | omega | (simp; done) | (simp; omega) | (have := HB.out.size; simp at *; omega)) _ | with_reducible refine Below.setCell ?_ (by first | exact Nat.le_refl _ | with_reducible exact HB.out.size | omega | (simp; done) | (simp; omega) | (have := HB.out.size; simp at *; omega)) _)) b)
      have HR := Lib.hid (Rd.below (by repeat (first | with_reducible exact HR.out | with_reducible apply Rd.drewN | with_reducible apply Rd.drew | with_reducible apply Rd.alloc)) b)
      clear b
      clear hu
      have HSz2 := Lib.hid HB.out.size
      obtain ⟨pa, ca, rfl, _, ra, _⟩ := HU.out.form
      have HA := Lib.hid ra
      clear ra
      go_wp2_with fail
      refine (l7_at A i pa A.length ca _ rfl (by have := hlen.out; omega) HA.out).mono ?_
      rintro e w3 ⟨u3, rfl, hu, b⟩
      have HU3 := Lib.hid hu
      have Sw3 := Lib.hid b.size
      have HB := Lib.hid (chain0 (w := w) (by repeat (first | with_reducible exact Below.refl _ _ | with_reducible exact HB.out | with_reducible apply Below.drew | with_reducible apply bdN | with_reducible refine Below.alloc ?_ (by first | exact Nat.le_refl _ | with_reducible exact HB.out.size | omega | (simp; done) | (simp; omega) | (have := HB.out.size; simp at *; omega)) _ | with_reducible refine Below.setCell ?_ (by first | exact Nat.le_refl _ | with_reducible exact HB.out.size | omega | (simp; done) | (simp; omega) | (have := HB.out.size; simp at *; omega)) _)) b)
      have HR := Lib.hid (Rd.below (by repeat (first | with_reducible exact HR.out | with_reducible apply Rd.drewN | with_reducible apply Rd.drew | with_reducible apply Rd.alloc)) b)
      clear b
      clear hu
      go_wp2_with fail
      go_ret2
      exact ⟨_, ret_two (by rw [HT.out]), by rw [HT.out]; exact OwnA3.base HU3.out HSz2.out, HB.out⟩
    · have HT := Lib.hid (laR_no (l := l) (i := i) (by rw [HN.out]; exact fun h => hi h.2))
      have hno : i < 0 ∨ ((n : Int) - 1) < i := by omega
      replace hno := Lib.hid hno
      clear hh hi
      go_wp2_with fail
      refine (in_no i 0 ((n : Int) - 1) _ hno.out).mono ?_
      rintro e w' ⟨rfl, rfl⟩
      go_wp2_with fail
      go_ret2
      exact ⟨_, ret_two (by rw [HT.out]), by rw [HT.out]; exact OwnA3.empty _ _ HB.out.size, by repeat (first | with_reducible exact Below.refl _ _ | with_reducible exact HB.out | with_reducible apply Below.drew | with_reducible apply bdN | with_reducible refine Below.alloc ?_ (by first | exact Nat.le_refl _ | with_reducible exact HB.out.size | omega | (simp; done) | (simp; omega) | (have := HB.out.size; simp at *; omega)) _ | with_reducible refine Below.setCell ?_ (by first | exact Nat.le_refl _ | with_reducible exact HB.out.size | omega | (simp; done) | (simp; omega) | (have := HB.out.size; simp at *; omega)) _)⟩
end Go.Proofs.Ytnibkipepmakgaa.parting
