/- Is a Deal valid? The program and the model alike. -/
import Derived.Test.YtjanphcfflahkaaQh
import Derived.Test.YtjanphcfflahkaaQj
import Derived.Deep.RegionHeld3
import Derived.Deep.DeepCutAuto
namespace Go.Proofs.Ytjanphcfflahkaa.deal
open Go.RowKit
open cards
set_option linter.unusedVariables false

noncomputable def drawn (d : Dl) : List Cd := (pile d.s).take d.nx.toNat
def okI (d : Dl) (k : Nat) : Prop := (∀ j c, j < k → d.l[j]? = some c → hasC (drawn d) c = true) ∧ (d.l.take k).Nodup
theorem ok_false {d : Dl} (h : ¬ d.okP) : d.ok = false := by
  cases hq : d.ok
  · rfl
  · exact absurd (Dl.ok_iff.1 hq) h
theorem ok_seed {d : Dl} (h : isSd d.s = false) : d.ok = false := ok_false (fun hp => by rw [isSd_iff.2 hp.1] at h; cases h)
theorem ok_next {d : Dl} (h : ¬ (0 ≤ d.nx ∧ d.nx ≤ 81)) : d.ok = false := ok_false (fun hp => h hp.2.1)
theorem ok_long {d : Dl} (h : 81 < d.l.length) : d.ok = false := ok_false (fun hp => by have := hp.len81; omega)
theorem ok_fail1 {d : Dl} {k : Nat} {x : Cd} (hx : d.l[k]? = some x) (h : hasC (drawn d) x = false) : d.ok = false := ok_false (fun hp => by
  have := hasC_iff.2 (hp.2.2.1 x (List.mem_of_getElem? hx))
  unfold drawn at h
  rw [this] at h; cases h)
theorem ok_fail2 {d : Dl} {k : Nat} {x : Cd} (hx : d.l[k]? = some x) (h : hasC (d.l.take k) x = true) : d.ok = false := ok_false (fun hp => by
  obtain ⟨j, hj⟩ := List.mem_iff_getElem?.1 (hasC_iff.1 h)
  have hjk : j < k := by have := (List.getElem?_eq_some_iff.1 hj).1; rw [List.length_take] at this; omega
  rw [List.getElem?_take, if_pos hjk] at hj
  exact absurd (nodup_at hp.2.2.2 hj hx) (by omega))
theorem okI_zero (d : Dl) : okI d 0 := ⟨fun j c hj => absurd hj (Nat.not_lt_zero j), by simp⟩
theorem okI_step {d : Dl} {k : Nat} {x : Cd} (h : okI d k) (hx : d.l[k]? = some x) (h1 : hasC (drawn d) x = true) (h2 : hasC (d.l.take k) x = false) : okI d (k + 1) := by
  refine ⟨fun j c hj hc => ?_, ?_⟩
  · rcases Nat.lt_or_ge j k with h3 | h3
    · exact h.1 j c h3 hc
    · obtain rfl : j = k := by omega
      rw [hx] at hc; injection hc with hc; subst hc; exact h1
  · rw [take_snoc hx]
    refine List.nodup_append.2 ⟨h.2, by simp, ?_⟩
    intro a ha b hb e
    simp only [List.mem_singleton] at hb
    subst e; subst hb
    rw [hasC_iff.2 ha] at h2; cases h2
theorem okI_end {d : Dl} (hs : isSd d.s = true) (hn : 0 ≤ d.nx ∧ d.nx ≤ 81) (h : okI d d.l.length) : d.ok = true := by
  refine Dl.ok_iff.2 ⟨isSd_iff.1 hs, hn, fun c hc => ?_, ?_⟩
  · obtain ⟨j, hj⟩ := List.mem_iff_getElem?.1 hc
    exact hasC_iff.1 (h.1 j c (List.getElem?_eq_some_iff.1 hj).1 hj)
  · have := h.2; rwa [List.take_length] at this
theorem drawn_len {d : Dl} (hn : 0 ≤ d.nx ∧ d.nx ≤ 81) : (drawn d).length = d.nx.toNat := by unfold drawn; rw [List.length_take, pile_len]; omega
theorem drawn_wf {d : Dl} (hs : isSd d.s = true) : ∀ x ∈ drawn d, wfc x := fun x hx => wfc_all (pile_ok (isSd_iff.1 hs)) x (List.mem_of_mem_take hx)

set_option maxRecDepth 100000 in
set_option maxHeartbeats 4000000 in
theorem impl_isdeal (s nx : Int) (l : List Cd) (p : Option Addr) (n cp : Nat) (w : World) (hn : l.length = n) (hl : n ≤ 1000000000) (hcp : n ≤ cp) (hr : Rd w p (flat l)) (hw : ∀ x ∈ l, wfc x) :
    Calls Try.prog 106 #[dval s nx (.slice p n cp)] w fun e w' => e = .returned (.bool (Dl.mk s nx l).ok) ∧ Below w.heap.size w w' := by
  have HN := Lib.hid hn
  have HR := Lib.hid hr
  have HR0 := Lib.hid hr
  have HW := Lib.hid hw
  clear hn hr hw
  go_enter Try.func106, Try.ntmps106
  go_wp2_with fail
  refine ((is_seed s _)).mono ?_
  rintro e w1 ⟨rfl, b⟩
  have Sw1 := Lib.hid b.size
  have HB := Lib.hid (chain0 (w := w) (by repeat (first | with_reducible exact Below.refl _ _ | with_reducible exact HB.out | with_reducible apply Below.drew | with_reducible apply bdN | with_reducible refine Below.alloc ?_ (by first | exact Nat.le_refl _ | with_reducible exact HB.out.size | omega | (simp; done) | (simp; omega) | (have := HB.out.size; simp at *; omega)) _ | with_reducible refine Below.setCell ?_ (by first | exact Nat.le_refl _ | with_reducible exact HB.out.size | omega | (simp; done) | (simp; omega) | (have := HB.out.size; simp at *; omega)) _)) b)
  have HR := Lib.hid (Rd.below (by repeat (first | with_reducible exact HR.out | with_reducible apply Rd.drewN | with_reducible apply Rd.drew | with_reducible apply Rd.alloc)) b)
  have K0 : Hid (DBox _ (w.heap.size) (⟨49, s, nx, .slice p n cp⟩)) := Lib.hid (DBox.below (by repeat (first | with_reducible exact K0.out | with_reducible apply DBox.drewN | with_reducible apply DBox.drew | (with_reducible refine DBox.newAt ?_ ?_ <;> first | (simp; done) | rfl) | with_reducible apply DBox.alloc)) b)
  try clear k0a k0b k0c k0d k0z
  have k0z := K0.out.lt
  obtain ⟨k0a, k0b, k0c, k0d⟩ := K0.out.cell
  clear b
  cases hs : isSd s
  · have HT := Lib.hid (ok_seed (d := ⟨s, nx, l⟩) hs)
    go_wp2_with fail
    go_ret
    exact ⟨ret_bool HT.out.symm, by repeat (first | with_reducible exact Below.refl _ _ | with_reducible exact HB.out | with_reducible apply Below.drew | with_reducible apply bdN | with_reducible refine Below.alloc ?_ (by first | exact Nat.le_refl _ | with_reducible exact HB.out.size | omega | (simp; done) | (simp; omega) | (have := HB.out.size; simp at *; omega)) _ | with_reducible refine Below.setCell ?_ (by first | exact Nat.le_refl _ | with_reducible exact HB.out.size | omega | (simp; done) | (simp; omega) | (have := HB.out.size; simp at *; omega)) _)⟩
  · by_cases h0 : nx < 0
    · have HT := Lib.hid (ok_next (d := ⟨s, nx, l⟩) (by simp only; omega))
      clear hs
      go_wp2_with fail
      go_ret
      exact ⟨ret_bool HT.out.symm, by repeat (first | with_reducible exact Below.refl _ _ | with_reducible exact HB.out | with_reducible apply Below.drew | with_reducible apply bdN | with_reducible refine Below.alloc ?_ (by first | exact Nat.le_refl _ | with_reducible exact HB.out.size | omega | (simp; done) | (simp; omega) | (have := HB.out.size; simp at *; omega)) _ | with_reducible refine Below.setCell ?_ (by first | exact Nat.le_refl _ | with_reducible exact HB.out.size | omega | (simp; done) | (simp; omega) | (have := HB.out.size; simp at *; omega)) _)⟩
    · by_cases h1 : 81 < nx
      · have HT := Lib.hid (ok_next (d := ⟨s, nx, l⟩) (by simp only; omega))
        clear hs
        go_wp2_with fail
        go_ret
        exact ⟨ret_bool HT.out.symm, by repeat (first | with_reducible exact Below.refl _ _ | with_reducible exact HB.out | with_reducible apply Below.drew | with_reducible apply bdN | with_reducible refine Below.alloc ?_ (by first | exact Nat.le_refl _ | with_reducible exact HB.out.size | omega | (simp; done) | (simp; omega) | (have := HB.out.size; simp at *; omega)) _ | with_reducible refine Below.setCell ?_ (by first | exact Nat.le_refl _ | with_reducible exact HB.out.size | omega | (simp; done) | (simp; omega) | (have := HB.out.size; simp at *; omega)) _)⟩
      · obtain ⟨a, rfl⟩ : ∃ a : Nat, nx = (a : Int) := ⟨nx.toNat, by omega⟩
        have HS := Lib.hid hs
        have HPf := Lib.hid (fun w => pile_from s w (isSd_iff.1 hs))
        have HNx := Lib.hid (show 0 ≤ (a : Int) ∧ (a : Int) ≤ 81 by omega)
        have HDl := Lib.hid (show (drawn ⟨s, (a : Int), l⟩).length = a by rw [drawn_len HNx.out]; simp)
        have HDw := Lib.hid (drawn_wf (d := ⟨s, (a : Int), l⟩) hs)
        have HPl := Lib.hid (pile_len s)
        have m0 : (0 : Int) ≤ (a : Int) := by omega
        have m1 : (a : Int) ≤ 81 := by omega
        have n0 : ((a : Int) < 0) = False := by simp
        clear hs h0 n0
        go_upto_region 3 with fail
        go_cut [3] (fun s3 wx => ∃ g c, s3 = .slice (some ⟨g, 0, none⟩) a c ∧ Hid (Rd wx (some ⟨g, 0, none⟩) (flat (drawn ⟨s, (a : Int), l⟩))) ∧ Hid (Below w.heap.size w wx) ∧ Hid (DBox wx w.heap.size ⟨49, s, a, .slice p n cp⟩))
        case first =>
          go_region_held3 (fun w' => w'.cell? ⟨w.heap.size, 0, none⟩ = some (.int .i64 s) ∧ w'.cell? ⟨w.heap.size, 1, none⟩ = some (.int .i64 (a : Int)) ∧ w'.cell? ⟨w.heap.size, 2, none⟩ = some (.slice p n cp)) (first | exact ⟨k0a, k0b, k0c⟩ | go_keep) (first
            | (go_at_call 133; refine (HPf.out _).mono ?_; rintro e wq ⟨u, rfl, hu, b⟩; obtain ⟨pu, cu, rfl, hcu, ru⟩ := hu.form; rw [HPl.out] at hu hcu ⊢; have HB := Lib.hid (chain0 (w := w) (by repeat (first | with_reducible exact Below.refl _ _ | with_reducible exact HB.out | with_reducible apply Below.drew | with_reducible apply bdN | with_reducible refine Below.alloc ?_ (by first | exact Nat.le_refl _ | with_reducible exact HB.out.size | omega | (simp; done) | (simp; omega) | (have := HB.out.size; simp at *; omega)) _ | with_reducible refine Below.setCell ?_ (by first | exact Nat.le_refl _ | with_reducible exact HB.out.size | omega | (simp; done) | (simp; omega) | (have := HB.out.size; simp at *; omega)) _)) b); have HR := Lib.hid (Rd.below (by repeat (first | with_reducible exact HR.out | with_reducible apply Rd.drewN | with_reducible apply Rd.drew | with_reducible apply Rd.alloc)) b); have K0 : Hid (DBox _ (w.heap.size) (⟨49, s, a, .slice p n cp⟩)) := Lib.hid (DBox.below (by repeat (first | with_reducible exact K0.out | with_reducible apply DBox.drewN | with_reducible apply DBox.drew | (with_reducible refine DBox.newAt ?_ ?_ <;> first | (simp; done) | rfl) | with_reducible apply DBox.alloc)) b); obtain ⟨k0a, k0b, k0c, k0d⟩ := K0.out.cell; have k0z := K0.out.lt; have R1 := Lib.hid ru; have qcu : (a : Int) ≤ (cu : Int) := Int.le_trans m1 (Int.ofNat_le.mpr hcu); clear b hu hcu ru))
          all_goals
            go_wp2_with fail
            go_meet
            case rel => exact ⟨_, _, rfl, Lib.hid (R1.out.take a), HB, K0⟩
        case rest =>
          clear HB HR K0 k0a k0b k0c k0d k0z HPf
          obtain ⟨g, c, rfl, HP, HB, K0⟩ := hcut
          obtain ⟨k0a, k0b, k0c, k0d⟩ := K0.out.cell
          have k0z := K0.out.lt
          go_wp2_with fail
          clear k0a k0b k0c k0d k0z
          go_loopw [4, 5, 29] (fun _ _ i wr => ∃ k : Nat, k ≤ n ∧ i = .int .i64 k ∧ Hid (okI ⟨s, (a : Int), l⟩ k) ∧ Hid (Rd wr (some ⟨g, 0, none⟩) (flat (drawn ⟨s, (a : Int), l⟩))) ∧ Hid (Below w.heap.size w wr) ∧ Hid (DBox wr w.heap.size ⟨49, s, a, .slice p n cp⟩)) (fun _ _ i _ => n - (intOf i).toNat)
          case atStart => exact ⟨0, Nat.zero_le _, rfl, okI_zero _, HP, HB, K0⟩
          case round =>
            clear HP HB K0
            obtain ⟨k, hk, rfl, HI, HP, HB, K0⟩ := hrel
            obtain ⟨k0a, k0b, k0c, k0d⟩ := K0.out.cell
            have k0z := K0.out.lt
            by_cases hlt : k < n
            · have HR := Lib.hid (HR0.out.below HB.out)
              obtain ⟨bk, o, x, rfl, hb, hx, c0, c1, c2, c3⟩ := HR.out.card (k := k) (by rw [HN.out]; exact hlt)
              have HX := Lib.hid hx
              have HXw := Lib.hid (wfc_at HW.out hx)
              have HTw := Lib.hid (show ∀ y ∈ l.take k, wfc y from fun y hy => HW.out y (List.mem_of_mem_take hy))
              have HTl := Lib.hid (show (l.take k).length = k by rw [List.length_take, HN.out]; omega)
              have HC1 := Lib.hid (fun (w' : World) (hr : Rd w' (some ⟨g, 0, none⟩) (flat (drawn ⟨s, (a : Int), l⟩))) => contains_cd (drawn ⟨s, (a : Int), l⟩) x (some ⟨g, 0, none⟩) a c w' HDl.out (by omega) hr HDw.out HXw.out)
              have HC2 := Lib.hid (fun (w' : World) (hr : Rd w' (some ⟨bk, o, none⟩) (flat (l.take k))) => contains_cd (l.take k) x (some ⟨bk, o, none⟩) k cp w' HTl.out (by omega) hr HTw.out HXw.out)
              have HRt := Lib.hid (HR.out.take k)
              have m2 : (0 : Int) ≤ (k : Int) := by omega
              have m3 : (k : Int) < (n : Int) := by omega
              have m4 : (k : Int) ≤ (cp : Int) := by omega
              have m5 : (k : Int) ≤ (n : Int) := by omega
              clear hx
              cases hd : hasC (drawn ⟨s, (a : Int), l⟩) x
              · have HT := Lib.hid (ok_fail1 (d := ⟨s, (a : Int), l⟩) HX.out hd)
                have HC1 := HC1.out
                rw [hd] at HC1
                have HC1 := Lib.hid HC1
                clear hd
                go_upto_region 7 with fail
                obtain ⟨w3, ew, b⟩ : ∃ wOPN : World, wOPN = (wr.alloc x.obj) ∧ Below ((wr.alloc x.obj)).heap.size ((wr.alloc x.obj)) wOPN := ⟨_, rfl, Below.refl _ _⟩
                rw [← ew]
                clear ew
                have Sw3 := Lib.hid b.size
                have HB := Lib.hid (chain0 (w := w) (by repeat (first | with_reducible exact Below.refl _ _ | with_reducible exact HB.out | with_reducible apply Below.drew | with_reducible apply bdN | with_reducible refine Below.alloc ?_ (by first | exact Nat.le_refl _ | with_reducible exact HB.out.size | omega | (simp; done) | (simp; omega) | (have := HB.out.size; simp at *; omega)) _ | with_reducible refine Below.setCell ?_ (by first | exact Nat.le_refl _ | with_reducible exact HB.out.size | omega | (simp; done) | (simp; omega) | (have := HB.out.size; simp at *; omega)) _)) b)
                have HP := Lib.hid (Rd.below (by repeat (first | with_reducible exact HP.out | with_reducible apply Rd.drewN | with_reducible apply Rd.drew | with_reducible apply Rd.alloc)) b)
                have HRt := Lib.hid (Rd.below (by repeat (first | with_reducible exact HRt.out | with_reducible apply Rd.drewN | with_reducible apply Rd.drew | with_reducible apply Rd.alloc)) b)
                have K0 : Hid (DBox _ (w.heap.size) (⟨49, s, a, .slice (some ⟨bk, o, none⟩) n cp⟩)) := Lib.hid (DBox.below (by repeat (first | with_reducible exact K0.out | with_reducible apply DBox.drewN | with_reducible apply DBox.drew | (with_reducible refine DBox.newAt ?_ ?_ <;> first | (simp; done) | rfl) | with_reducible apply DBox.alloc)) b)
                have K5 : Hid (Box _ (wr.heap.size) (x)) := Lib.hid (Box.below (by repeat (first | with_reducible exact K5.out | with_reducible apply Box.drewN | with_reducible apply Box.drew | (with_reducible refine Box.newAt ?_ ?_ <;> first | (simp; done) | rfl) | with_reducible apply Box.alloc)) b)
                try clear k0a k0b k0c k0d k0z
                have k0z := K0.out.lt
                obtain ⟨k0a, k0b, k0c, k0d⟩ := K0.out.cell
                try clear k5a k5b k5c k5d k5z
                have k5z := K5.out.lt
                obtain ⟨k5a, k5b, k5c, k5d⟩ := K5.out.cell
                clear b
                have qk0a := fun d os => cell_regrown k0a d os
                have qk0b := fun d os => cell_regrown k0b d os
                have qk0c := fun d os => cell_regrown k0c d os
                have qk5a := fun d os => cell_regrown k5a d os
                have qk5b := fun d os => cell_regrown k5b d os
                have qk5c := fun d os => cell_regrown k5c d os
                have qk5d := fun d os => cell_regrown k5d d os
                refine wp_region_quiet_below (by kernel_rfl) (by kernel_rfl) ?_
                repeat (first | go_big_quiet_step ((go_at_call 134; with_reducible exact Calls.regrown_of (HC1.out _ (HP.out.below (below_regrown _ _ _))))) | quiet_step ((go_at_call 134; with_reducible exact Calls.regrown_of (HC1.out _ (HP.out.below (below_regrown _ _ _))))))
                refine wpQuiet_nil ?_
                intro w4 hw2
                have b : Below w3.heap.size w3 w4 := by obtain ⟨r, hr⟩ := hw2; rw [hr]; exact below_regrown _ _ _
                clear hw2 qk0a qk0b qk0c qk5a qk5b qk5c qk5d
                have Sw4 := Lib.hid b.size
                have HB := Lib.hid (chain0 (w := w) (by repeat (first | with_reducible exact Below.refl _ _ | with_reducible exact HB.out | with_reducible apply Below.drew | with_reducible apply bdN | with_reducible refine Below.alloc ?_ (by first | exact Nat.le_refl _ | with_reducible exact HB.out.size | omega | (simp; done) | (simp; omega) | (have := HB.out.size; simp at *; omega)) _ | with_reducible refine Below.setCell ?_ (by first | exact Nat.le_refl _ | with_reducible exact HB.out.size | omega | (simp; done) | (simp; omega) | (have := HB.out.size; simp at *; omega)) _)) b)
                have HP := Lib.hid (Rd.below (by repeat (first | with_reducible exact HP.out | with_reducible apply Rd.drewN | with_reducible apply Rd.drew | with_reducible apply Rd.alloc)) b)
                have HRt := Lib.hid (Rd.below (by repeat (first | with_reducible exact HRt.out | with_reducible apply Rd.drewN | with_reducible apply Rd.drew | with_reducible apply Rd.alloc)) b)
                have K0 : Hid (DBox _ (w.heap.size) (⟨49, s, a, .slice (some ⟨bk, o, none⟩) n cp⟩)) := Lib.hid (DBox.below (by repeat (first | with_reducible exact K0.out | with_reducible apply DBox.drewN | with_reducible apply DBox.drew | (with_reducible refine DBox.newAt ?_ ?_ <;> first | (simp; done) | rfl) | with_reducible apply DBox.alloc)) b)
                have K5 : Hid (Box _ (wr.heap.size) (x)) := Lib.hid (Box.below (by repeat (first | with_reducible exact K5.out | with_reducible apply Box.drewN | with_reducible apply Box.drew | (with_reducible refine Box.newAt ?_ ?_ <;> first | (simp; done) | rfl) | with_reducible apply Box.alloc)) b)
                try clear k0a k0b k0c k0d k0z
                have k0z := K0.out.lt
                obtain ⟨k0a, k0b, k0c, k0d⟩ := K0.out.cell
                try clear k5a k5b k5c k5d k5z
                have k5z := K5.out.lt
                obtain ⟨k5a, k5b, k5c, k5d⟩ := K5.out.cell
                clear b
                go_wp2_with fail
                go_ret
                exact ⟨ret_bool HT.out.symm, HB.out⟩
              · cases he : hasC (l.take k) x
                · have HI2 := Lib.hid (okI_step HI.out HX.out hd he)
                  have HC1 := HC1.out
                  rw [hd] at HC1
                  have HC1 := Lib.hid HC1
                  have HC2 := HC2.out
                  rw [he] at HC2
                  have HC2 := Lib.hid HC2
                  clear hd he
                  go_upto_region 7 with fail
                  obtain ⟨w3, ew, b⟩ : ∃ wOPN : World, wOPN = (wr.alloc x.obj) ∧ Below ((wr.alloc x.obj)).heap.size ((wr.alloc x.obj)) wOPN := ⟨_, rfl, Below.refl _ _⟩
                  rw [← ew]
                  clear ew
                  have Sw3 := Lib.hid b.size
                  have HB := Lib.hid (chain0 (w := w) (by repeat (first | with_reducible exact Below.refl _ _ | with_reducible exact HB.out | with_reducible apply Below.drew | with_reducible apply bdN | with_reducible refine Below.alloc ?_ (by first | exact Nat.le_refl _ | with_reducible exact HB.out.size | omega | (simp; done) | (simp; omega) | (have := HB.out.size; simp at *; omega)) _ | with_reducible refine Below.setCell ?_ (by first | exact Nat.le_refl _ | with_reducible exact HB.out.size | omega | (simp; done) | (simp; omega) | (have := HB.out.size; simp at *; omega)) _)) b)
                  have HP := Lib.hid (Rd.below (by repeat (first | with_reducible exact HP.out | with_reducible apply Rd.drewN | with_reducible apply Rd.drew | with_reducible apply Rd.alloc)) b)
                  have HRt := Lib.hid (Rd.below (by repeat (first | with_reducible exact HRt.out | with_reducible apply Rd.drewN | with_reducible apply Rd.drew | with_reducible apply Rd.alloc)) b)
                  have K0 : Hid (DBox _ (w.heap.size) (⟨49, s, a, .slice (some ⟨bk, o, none⟩) n cp⟩)) := Lib.hid (DBox.below (by repeat (first | with_reducible exact K0.out | with_reducible apply DBox.drewN | with_reducible apply DBox.drew | (with_reducible refine DBox.newAt ?_ ?_ <;> first | (simp; done) | rfl) | with_reducible apply DBox.alloc)) b)
                  have K5 : Hid (Box _ (wr.heap.size) (x)) := Lib.hid (Box.below (by repeat (first | with_reducible exact K5.out | with_reducible apply Box.drewN | with_reducible apply Box.drew | (with_reducible refine Box.newAt ?_ ?_ <;> first | (simp; done) | rfl) | with_reducible apply Box.alloc)) b)
                  try clear k0a k0b k0c k0d k0z
                  have k0z := K0.out.lt
                  obtain ⟨k0a, k0b, k0c, k0d⟩ := K0.out.cell
                  try clear k5a k5b k5c k5d k5z
                  have k5z := K5.out.lt
                  obtain ⟨k5a, k5b, k5c, k5d⟩ := K5.out.cell
                  clear b
                  have qk0a := fun d os => cell_regrown k0a d os
                  have qk0b := fun d os => cell_regrown k0b d os
                  have qk0c := fun d os => cell_regrown k0c d os
                  have qk5a := fun d os => cell_regrown k5a d os
                  have qk5b := fun d os => cell_regrown k5b d os
                  have qk5c := fun d os => cell_regrown k5c d os
                  have qk5d := fun d os => cell_regrown k5d d os
                  refine wp_region_quiet_below (by kernel_rfl) (by kernel_rfl) ?_
                  repeat (first | go_big_quiet_step ((go_at_call 134; first | with_reducible exact Calls.regrown_of (HC1.out _ (HP.out.below (below_regrown _ _ _))) | with_reducible exact Calls.regrown_of (HC2.out _ (HRt.out.below (below_regrown _ _ _))))) | quiet_step ((go_at_call 134; first | with_reducible exact Calls.regrown_of (HC1.out _ (HP.out.below (below_regrown _ _ _))) | with_reducible exact Calls.regrown_of (HC2.out _ (HRt.out.below (below_regrown _ _ _))))))
                  refine wpQuiet_nil ?_
                  intro w4 hw2
                  have b : Below w3.heap.size w3 w4 := by obtain ⟨r, hr⟩ := hw2; rw [hr]; exact below_regrown _ _ _
                  clear hw2 qk0a qk0b qk0c qk5a qk5b qk5c qk5d
                  have Sw4 := Lib.hid b.size
                  have HB := Lib.hid (chain0 (w := w) (by repeat (first | with_reducible exact Below.refl _ _ | with_reducible exact HB.out | with_reducible apply Below.drew | with_reducible apply bdN | with_reducible refine Below.alloc ?_ (by first | exact Nat.le_refl _ | with_reducible exact HB.out.size | omega | (simp; done) | (simp; omega) | (have := HB.out.size; simp at *; omega)) _ | with_reducible refine Below.setCell ?_ (by first | exact Nat.le_refl _ | with_reducible exact HB.out.size | omega | (simp; done) | (simp; omega) | (have := HB.out.size; simp at *; omega)) _)) b)
                  have HP := Lib.hid (Rd.below (by repeat (first | with_reducible exact HP.out | with_reducible apply Rd.drewN | with_reducible apply Rd.drew | with_reducible apply Rd.alloc)) b)
                  have HRt := Lib.hid (Rd.below (by repeat (first | with_reducible exact HRt.out | with_reducible apply Rd.drewN | with_reducible apply Rd.drew | with_reducible apply Rd.alloc)) b)
                  have K0 : Hid (DBox _ (w.heap.size) (⟨49, s, a, .slice (some ⟨bk, o, none⟩) n cp⟩)) := Lib.hid (DBox.below (by repeat (first | with_reducible exact K0.out | with_reducible apply DBox.drewN | with_reducible apply DBox.drew | (with_reducible refine DBox.newAt ?_ ?_ <;> first | (simp; done) | rfl) | with_reducible apply DBox.alloc)) b)
                  have K5 : Hid (Box _ (wr.heap.size) (x)) := Lib.hid (Box.below (by repeat (first | with_reducible exact K5.out | with_reducible apply Box.drewN | with_reducible apply Box.drew | (with_reducible refine Box.newAt ?_ ?_ <;> first | (simp; done) | rfl) | with_reducible apply Box.alloc)) b)
                  try clear k0a k0b k0c k0d k0z
                  have k0z := K0.out.lt
                  obtain ⟨k0a, k0b, k0c, k0d⟩ := K0.out.cell
                  try clear k5a k5b k5c k5d k5z
                  have k5z := K5.out.lt
                  obtain ⟨k5a, k5b, k5c, k5d⟩ := K5.out.cell
                  clear b
                  go_wp2_with fail
                  go_roundw
                  case rel => exact ⟨k + 1, by omega, by go_num, HI2, HP, HB, K0⟩
                  case measure => simp [intOf]; omega
                · have HT := Lib.hid (ok_fail2 (d := ⟨s, (a : Int), l⟩) HX.out he)
                  have HC1 := HC1.out
                  rw [hd] at HC1
                  have HC1 := Lib.hid HC1
                  have HC2 := HC2.out
                  rw [he] at HC2
                  have HC2 := Lib.hid HC2
                  clear hd he
                  go_upto_region 7 with fail
                  obtain ⟨w3, ew, b⟩ : ∃ wOPN : World, wOPN = (wr.alloc x.obj) ∧ Below ((wr.alloc x.obj)).heap.size ((wr.alloc x.obj)) wOPN := ⟨_, rfl, Below.refl _ _⟩
                  rw [← ew]
                  clear ew
                  have Sw3 := Lib.hid b.size
                  have HB := Lib.hid (chain0 (w := w) (by repeat (first | with_reducible exact Below.refl _ _ | with_reducible exact HB.out | with_reducible apply Below.drew | with_reducible apply bdN | with_reducible refine Below.alloc ?_ (by first | exact Nat.le_refl _ | with_reducible exact HB.out.size | omega | (simp; done) | (simp; omega) | (have := HB.out.size; simp at *; omega)) _ | with_reducible refine Below.setCell ?_ (by first | exact Nat.le_refl _ | with_reducible exact HB.out.size | omega | (simp; done) | (simp; omega) | (have := HB.out.size; simp at *; omega)) _)) b)
                  have HP := Lib.hid (Rd.below (by repeat (first | with_reducible exact HP.out | with_reducible apply Rd.drewN | with_reducible apply Rd.drew | with_reducible apply Rd.alloc)) b)
                  have HRt := Lib.hid (Rd.below (by repeat (first | with_reducible exact HRt.out | with_reducible apply Rd.drewN | with_reducible apply Rd.drew | with_reducible apply Rd.alloc)) b)
                  have K0 : Hid (DBox _ (w.heap.size) (⟨49, s, a, .slice (some ⟨bk, o, none⟩) n cp⟩)) := Lib.hid (DBox.below (by repeat (first | with_reducible exact K0.out | with_reducible apply DBox.drewN | with_reducible apply DBox.drew | (with_reducible refine DBox.newAt ?_ ?_ <;> first | (simp; done) | rfl) | with_reducible apply DBox.alloc)) b)
                  have K5 : Hid (Box _ (wr.heap.size) (x)) := Lib.hid (Box.below (by repeat (first | with_reducible exact K5.out | with_reducible apply Box.drewN | with_reducible apply Box.drew | (with_reducible refine Box.newAt ?_ ?_ <;> first | (simp; done) | rfl) | with_reducible apply Box.alloc)) b)
                  try clear k0a k0b k0c k0d k0z
                  have k0z := K0.out.lt
                  obtain ⟨k0a, k0b, k0c, k0d⟩ := K0.out.cell
                  try clear k5a k5b k5c k5d k5z
                  have k5z := K5.out.lt
                  obtain ⟨k5a, k5b, k5c, k5d⟩ := K5.out.cell
                  clear b
                  have qk0a := fun d os => cell_regrown k0a d os
                  have qk0b := fun d os => cell_regrown k0b d os
                  have qk0c := fun d os => cell_regrown k0c d os
                  have qk5a := fun d os => cell_regrown k5a d os
                  have qk5b := fun d os => cell_regrown k5b d os
                  have qk5c := fun d os => cell_regrown k5c d os
                  have qk5d := fun d os => cell_regrown k5d d os
                  refine wp_region_quiet_below (by kernel_rfl) (by kernel_rfl) ?_
                  repeat (first | go_big_quiet_step ((go_at_call 134; first | with_reducible exact Calls.regrown_of (HC1.out _ (HP.out.below (below_regrown _ _ _))) | with_reducible exact Calls.regrown_of (HC2.out _ (HRt.out.below (below_regrown _ _ _))))) | quiet_step ((go_at_call 134; first | with_reducible exact Calls.regrown_of (HC1.out _ (HP.out.below (below_regrown _ _ _))) | with_reducible exact Calls.regrown_of (HC2.out _ (HRt.out.below (below_regrown _ _ _))))))
                  refine wpQuiet_nil ?_
                  intro w4 hw2
                  have b : Below w3.heap.size w3 w4 := by obtain ⟨r, hr⟩ := hw2; rw [hr]; exact below_regrown _ _ _
                  clear hw2 qk0a qk0b qk0c qk5a qk5b qk5c qk5d
                  have Sw4 := Lib.hid b.size
                  have HB := Lib.hid (chain0 (w := w) (by repeat (first | with_reducible exact Below.refl _ _ | with_reducible exact HB.out | with_reducible apply Below.drew | with_reducible apply bdN | with_reducible refine Below.alloc ?_ (by first | exact Nat.le_refl _ | with_reducible exact HB.out.size | omega | (simp; done) | (simp; omega) | (have := HB.out.size; simp at *; omega)) _ | with_reducible refine Below.setCell ?_ (by first | exact Nat.le_refl _ | with_reducible exact HB.out.size | omega | (simp; done) | (simp; omega) | (have := HB.out.size; simp at *; omega)) _)) b)
                  have HP := Lib.hid (Rd.below (by repeat (first | with_reducible exact HP.out | with_reducible apply Rd.drewN | with_reducible apply Rd.drew | with_reducible apply Rd.alloc)) b)
                  have HRt := Lib.hid (Rd.below (by repeat (first | with_reducible exact HRt.out | with_reducible apply Rd.drewN | with_reducible apply Rd.drew | with_reducible apply Rd.alloc)) b)
                  have K0 : Hid (DBox _ (w.heap.size) (⟨49, s, a, .slice (some ⟨bk, o, none⟩) n cp⟩)) := Lib.hid (DBox.below (by repeat (first | with_reducible exact K0.out | with_reducible apply DBox.drewN | with_reducible apply DBox.drew | (with_reducible refine DBox.newAt ?_ ?_ <;> first | (simp; done) | rfl) | with_reducible apply DBox.alloc)) b)
                  have K5 : Hid (Box _ (wr.heap.size) (x)) := Lib.hid (Box.below (by repeat (first | with_reducible exact K5.out | with_reducible apply Box.drewN | with_reducible apply Box.drew | (with_reducible refine Box.newAt ?_ ?_ <;> first | (simp; done) | rfl) | with_reducible apply Box.alloc)) b)
                  try clear k0a k0b k0c k0d k0z
                  have k0z := K0.out.lt
                  obtain ⟨k0a, k0b, k0c, k0d⟩ := K0.out.cell
                  try clear k5a k5b k5c k5d k5z
                  have k5z := K5.out.lt
                  obtain ⟨k5a, k5b, k5c, k5d⟩ := K5.out.cell
                  clear b
                  go_wp2_with fail
                  go_ret
                  exact ⟨ret_bool HT.out.symm, HB.out⟩
            · obtain rfl : k = n := by omega
              have HT := Lib.hid (okI_end (d := ⟨s, (a : Int), l⟩) HS.out HNx.out (by rw [show (Dl.mk s (a : Int) l).l.length = k from HN.out]; exact HI.out))
              go_wp2_with fail
              go_ret
              exact ⟨ret_bool HT.out.symm, by repeat (first | with_reducible exact Below.refl _ _ | with_reducible exact HB.out | with_reducible apply Below.drew | with_reducible apply bdN | with_reducible refine Below.alloc ?_ (by first | exact Nat.le_refl _ | with_reducible exact HB.out.size | omega | (simp; done) | (simp; omega) | (have := HB.out.size; simp at *; omega)) _ | with_reducible refine Below.setCell ?_ (by first | exact Nat.le_refl _ | with_reducible exact HB.out.size | omega | (simp; done) | (simp; omega) | (have := HB.out.size; simp at *; omega)) _)⟩
end Go.Proofs.Ytjanphcfflahkaa.deal
