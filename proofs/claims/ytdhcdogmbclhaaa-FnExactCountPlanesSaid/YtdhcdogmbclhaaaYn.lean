/- CountPlanes: the program's, whole. -/
import Derived.Test.YtdhcdogmbclhaaaYm
import Derived.Test.YtdhcdogmbclhaaaYb
namespace Go.Proofs.Ytdhcdogmbclhaaa.planes
open Go.RowKit
open cards reg
set_option linter.unusedVariables false

theorem plane_len {ops : Array Oper} {rest : List Oper} {o : Oper} {a : Act} {Q : Exit → Act → World → Prop} {w : World} (hg : o.guard = none) (m : Operand) (hop : o.op = Op.call { callee := Callee.builtin Builtin.len, args := #[m], argTypes := #[57] }) (g n : Nat) (Ls : List (List Cd))
    (hm : a.eval m = .map (some g)) (hM : MapP w g n Ls) (hK : wpList Try.prog ops Q rest (a.put o.dst (.int .i64 (Ls.length : Int))) w) : wpList Try.prog ops Q (o :: rest) a w := by
  obtain ⟨D, h1, h2, _⟩ := hM
  refine wpList_len_own w hg m 57 hop 37 4 Try.underlying57 _ g n D hm h1 ?_
  rw [h2]; exact hK
/-- The map of the planes found so far. -/
def CpM (w : World) (g : Nat) (l : List Cd) (i j k : Nat) : Prop := ∃ Ls, MapP w g (729 * i + 27 * j + k) Ls ∧ ∀ P, P ∈ Ls ↔ fnd l i j k P
theorem CpM.below {w w1 : World} {g i j k : Nat} {l : List Cd} (h : CpM w g l i j k) (b : Below w.heap.size w w1) : CpM w1 g l i j k := by
  obtain ⟨Ls, h1, h2⟩ := h
  exact ⟨Ls, h1.below b, h2⟩
theorem CpM.alloc {w : World} {g i j k : Nat} {l : List Cd} (h : CpM w g l i j k) (o : Obj) : CpM (w.alloc o) g l i j k := h.below ((Below.refl _ _).alloc (Nat.le_refl _) o)
theorem CpM.drewN {w : World} {g i j k : Nat} {l : List Cd} (h : CpM w g l i j k) (n : Nat) : CpM (w.drewN n) g l i j k := h.below (bdN (Below.refl _ _) n)
theorem CpM.drew {w : World} {g i j k : Nat} {l : List Cd} (h : CpM w g l i j k) : CpM w.drew g l i j k := h.below (Below.refl _ _).drew
theorem CpM.kept {w w1 : World} {g i j k : Nat} {l : List Cd} {row : Option Nat} (h : CpM w g l i j k) (hg : w.grownBy w1 row) (hne : some g ≠ row) : CpM w1 g l i j k := by
  obtain ⟨Ls, h1, h2⟩ := h
  exact ⟨Ls, h1.kept hg hne, h2⟩
theorem CpM.lt {w : World} {g i j k : Nat} {l : List Cd} (h : CpM w g l i j k) : g < w.heap.size := by obtain ⟨Ls, h1, _⟩ := h; exact h1.lt
theorem CpM.skip {w : World} {g i j k : Nat} {l : List Cd} {a b c : Cd} (h : CpM w g l i j k) (ha : l[i]? = some a) (hb : l[j]? = some b) (hc : l[k]? = some c) (hn : triB a b c = false ∨ ¬ ∀ p, p ∈ span [a, b, c] → p ∈ l) : CpM w g l i j (k + 1) := by
  obtain ⟨Ls, h1, h2⟩ := h
  exact ⟨Ls, h1.mono (by omega), fun P => (h2 P).trans (fnd_skip ha hb hc hn)⟩
theorem CpM.row {w : World} {g i j : Nat} {l : List Cd} (h : CpM w g l i j j) (hj : j ≤ 27) : CpM w g l i (j + 1) 0 := by
  obtain ⟨Ls, h1, h2⟩ := h
  exact ⟨Ls, h1.mono (by omega), fun P => (h2 P).trans fnd_row⟩
theorem CpM.next {w : World} {g i : Nat} {l : List Cd} (h : CpM w g l i i 0) (hi : i ≤ 27) : CpM w g l (i + 1) 0 0 := by
  obtain ⟨Ls, h1, h2⟩ := h
  exact ⟨Ls, h1.mono (by omega), fun P => (h2 P).trans fnd_next⟩

set_option maxRecDepth 100000 in
set_option maxHeartbeats 8000000 in
theorem impl_cp (l : List Cd) (p : Option Addr) (n cp : Nat) (w : World) (hn : l.length = n) (hl : n ≤ 1000000000) (hr : Rd w p (flat l)) (hcp : n ≤ cp) :
    Calls Try.prog 33 #[.slice p n cp] w fun e w' => e = .returned (.tuple #[.int .i64 (cpR l).1, .bool (cpR l).2]) ∧ Below w.heap.size w w' := by
  have hmm := @run_makeMap Try.prog
  have HN := Lib.hid hn
  have HI := Lib.hid (fun w hr => is_hand l p n cp w hn hl hr)
  have HR0 := Lib.hid hr
  have HR := Lib.hid hr
  have HZ := Lib.hid z36_size
  clear hr hn
  cases hh : handB l
  · have HT := Lib.hid (show cpR l = (0, false) by unfold cpR; rw [if_neg (by simp [hh])])
    rw [hh] at HI
    clear hh
    go_enter Try.func33, Try.ntmps33
    go_wp2_with fail
    refine ((HI.out _ HR.out)).mono ?_
    rintro e w1 ⟨rfl, b⟩
    have Sw1 := Lib.hid b.size
    have HB := Lib.hid (chain0 (w := w) (by repeat (first | with_reducible exact Below.refl _ _ | with_reducible exact HB.out | with_reducible apply Below.drew | with_reducible apply bdN | with_reducible refine Below.alloc ?_ (by first | exact Nat.le_refl _ | with_reducible exact HB.out.size | omega | (simp; done) | (simp; omega) | (have := HB.out.size; simp at *; omega)) _ | with_reducible refine Below.setCell ?_ (by first | exact Nat.le_refl _ | with_reducible exact HB.out.size | omega | (simp; done) | (simp; omega) | (have := HB.out.size; simp at *; omega)) _)) b)
    have HR := Lib.hid (Rd.below (by repeat (first | with_reducible exact HR.out | with_reducible apply Rd.drewN | with_reducible apply Rd.drew | with_reducible apply Rd.alloc)) b)
    clear b
    go_wp2_with fail
    go_ret2
    exact ⟨by rw [HT.out]; rfl, by repeat (first | with_reducible exact Below.refl _ _ | with_reducible exact HB.out | with_reducible apply Below.drew | with_reducible apply bdN | with_reducible refine Below.alloc ?_ (by first | exact Nat.le_refl _ | with_reducible exact HB.out.size | omega | (simp; done) | (simp; omega) | (have := HB.out.size; simp at *; omega)) _ | with_reducible refine Below.setCell ?_ (by first | exact Nat.le_refl _ | with_reducible exact HB.out.size | omega | (simp; done) | (simp; omega) | (have := HB.out.size; simp at *; omega)) _)⟩
  · have HT := Lib.hid (show cpR l = ((plN l : Int), true) by unfold cpR; rw [if_pos hh])
    have HH := Lib.hid (handB_true.1 hh)
    have hn27 : n ≤ 27 := by have := HH.out.1; have := HN.out; omega
    rw [hh] at HI
    clear hh
    go_enter Try.func33, Try.ntmps33
    go_wp2_with fail
    refine ((HI.out _ HR.out)).mono ?_
    rintro e w1 ⟨rfl, b⟩
    have Sw1 := Lib.hid b.size
    have HB := Lib.hid (chain0 (w := w) (by repeat (first | with_reducible exact Below.refl _ _ | with_reducible exact HB.out | with_reducible apply Below.drew | with_reducible apply bdN | with_reducible refine Below.alloc ?_ (by first | exact Nat.le_refl _ | with_reducible exact HB.out.size | omega | (simp; done) | (simp; omega) | (have := HB.out.size; simp at *; omega)) _ | with_reducible refine Below.setCell ?_ (by first | exact Nat.le_refl _ | with_reducible exact HB.out.size | omega | (simp; done) | (simp; omega) | (have := HB.out.size; simp at *; omega)) _)) b)
    have HR := Lib.hid (Rd.below (by repeat (first | with_reducible exact HR.out | with_reducible apply Rd.drewN | with_reducible apply Rd.drew | with_reducible apply Rd.alloc)) b)
    clear b
    have HC : Hid (CpM (w1.alloc (.map #[] 0)) w1.heap.size l 0 0 0) := Lib.hid ⟨[], MapP.made w1, fun P => ⟨fun h => absurd h (by simp), fun h => absurd h (fnd_zero l P)⟩⟩
    have HB2 := Lib.hid (HB.out.alloc HB.out.size (.map #[] 0))
    have hgw := HB.out.size
    clear HB HR
    go_upto_region 4 with fail
    obtain ⟨gm, hgm⟩ : ∃ g, w1.heap.size = g := ⟨_, rfl⟩
    rw [hgm] at HC hgw
    try rw [hgm]
    clear hgm
    have HB := HB2
    clear HB2
    generalize w1.alloc (.map #[] 0) = W at *
    go_wp2_with fail
    go_loopw [18] (fun iv wr => ∃ i : Nat, i ≤ n ∧ iv = .int .i64 i ∧ Hid (CpM wr gm l i 0 0) ∧ Hid (Below w.heap.size w wr)) (fun iv _ => n - (intOf iv).toNat)
    case atStart => exact ⟨0, Nat.zero_le _, rfl, HC, HB⟩
    case round =>
      clear HC HB
      obtain ⟨i, hi, rfl, HC, HB⟩ := hrel
      by_cases hit : i < n
      · obtain ⟨b0, o0, a, rfl, hb0, ha, c0, c1, c2, c3⟩ := (HR0.out.below HB.out).card (k := i) (by rw [HN.out]; exact hit)
        have HA := Lib.hid ha
        have m0 : (0 : Int) ≤ (i : Int) := by omega
        have m1 : (i : Int) < (n : Int) := by omega
        have m2 : i ≤ cp := by omega
        have m3 : (i : Int) ≤ (cp : Int) := by omega
        clear ha
        go_upto_region 7 with fail
        have K6 : Hid (Box (wr.alloc a.obj) wr.heap.size a) := Lib.hid (Box.newAt rfl rfl)
        have h6m := HC.out.lt
        have HC := Lib.hid (HC.out.alloc a.obj)
        have HB := Lib.hid (HB.out.alloc HB.out.size a.obj)
        obtain ⟨g6, hg6⟩ : ∃ g, wr.heap.size = g := ⟨_, rfl⟩
        rw [hg6] at K6 h6m
        try rw [hg6]
        clear hg6 c0 c1 c2 c3 hb0
        generalize wr.alloc a.obj = W2 at *
        go_wp2_with fail
        go_loopw [27] (fun jv wr => ∃ j : Nat, j ≤ i ∧ jv = .int .i64 j ∧ Hid (CpM wr gm l i j 0) ∧ Hid (Below w.heap.size w wr) ∧ Hid (Box wr g6 a)) (fun jv _ => i - (intOf jv).toNat)
        case atStart => exact ⟨0, Nat.zero_le _, rfl, HC, HB, K6⟩
        case round =>
          clear HC HB K6
          obtain ⟨j, hj, rfl, HC, HB, K6⟩ := hrel
          by_cases hjt : j < i
          · obtain ⟨b1, o1, b, e1, hb1, hb, c0, c1, c2, c3⟩ := (HR0.out.below HB.out).card (k := j) (by rw [HN.out]; omega)
            injection e1 with e1; injection e1 with e1a e1b
            subst e1a; subst e1b
            have HBb := Lib.hid hb
            have n0 : (0 : Int) ≤ (j : Int) := by omega
            have n1 : (j : Int) < (i : Int) := by omega
            have n2 : j ≤ cp := by omega
            have n3 : (j : Int) ≤ (cp : Int) := by omega
            clear hb
            go_upto_region 10 with fail
            have K8 : Hid (Box (wr.alloc b.obj) wr.heap.size b) := Lib.hid (Box.newAt rfl rfl)
            have h8m := HC.out.lt
            have HC := Lib.hid (HC.out.alloc b.obj)
            have K6 := Lib.hid (K6.out.alloc b.obj)
            have HB := Lib.hid (HB.out.alloc HB.out.size b.obj)
            obtain ⟨g8, hg8⟩ : ∃ g, wr.heap.size = g := ⟨_, rfl⟩
            rw [hg8] at K8 h8m
            try rw [hg8]
            clear hg8 c0 c1 c2 c3 hb1
            generalize wr.alloc b.obj = W3 at *
            go_wp2_with fail
            go_loopw [36] (fun kv wr => ∃ k : Nat, k ≤ j ∧ kv = .int .i64 k ∧ Hid (CpM wr gm l i j k) ∧ Hid (Below w.heap.size w wr) ∧ Hid (Box wr g6 a) ∧ Hid (Box wr g8 b)) (fun kv _ => j - (intOf kv).toNat)
            case atStart => exact ⟨0, Nat.zero_le _, rfl, HC, HB, K6, K8⟩
            case round =>
              clear HC HB K6 K8
              obtain ⟨k, hk, rfl, HC, HB, K6, K8⟩ := hrel
              by_cases hkt : k < j
              · obtain ⟨b2, o2, c, e2, hb2, hc, c0, c1, c2, c3⟩ := (HR0.out.below HB.out).card (k := k) (by rw [HN.out]; omega)
                injection e2 with e2; injection e2 with e2a e2b
                subst e2a; subst e2b
                have HCc := Lib.hid hc
                have q0 : (0 : Int) ≤ (k : Int) := by omega
                have q1 : (k : Int) < (j : Int) := by omega
                have HSk := Lib.hid (fun (w : World) (h : CpM w gm l i j k) hn => h.skip HA.out HBb.out HCc.out hn)
                have HTr := Lib.hid (fun w => is_tri a b c w)
                clear hc
                go_upto_region 13 with fail
                have K10 : Hid (Box (wr.alloc c.obj) wr.heap.size c) := Lib.hid (Box.newAt rfl rfl)
                have h10m := HC.out.lt
                have HC := Lib.hid (HC.out.alloc c.obj)
                have K6 := Lib.hid (K6.out.alloc c.obj)
                have K8 := Lib.hid (K8.out.alloc c.obj)
                have HB := Lib.hid (HB.out.alloc HB.out.size c.obj)
                obtain ⟨g10, hg10⟩ : ∃ g, wr.heap.size = g := ⟨_, rfl⟩
                rw [hg10] at K10 h10m
                try rw [hg10]
                clear hg10 c0 c1 c2 c3 hb2
                generalize wr.alloc c.obj = W4 at *
                obtain ⟨k6a, k6b, k6c, k6d⟩ := K6.out.cell
                obtain ⟨k8a, k8b, k8c, k8d⟩ := K8.out.cell
                obtain ⟨k10a, k10b, k10c, k10d⟩ := K10.out.cell
                cases htr : triB a b c
                · rw [htr] at HTr
                  have HX := Lib.hid htr
                  clear htr
                  go_wp2_with fail
                  refine (HTr.out _).mono ?_
                  rintro e w5 ⟨rfl, q⟩
                  have HC := Lib.hid (HSk.out _ (HC.out.below q) (.inl HX.out))
                  have HB := Lib.hid (chain0 HB.out q)
                  have K6 := Lib.hid (K6.out.below q)
                  have K8 := Lib.hid (K8.out.below q)
                  clear q k6a k6b k6c k6d k8a k8b k8c k8d k10a k10b k10c k10d K10
                  go_wp2_with fail
                  go_roundw
                  case rel => exact ⟨k + 1, by omega, by go_num, HC, HB, K6, K8⟩
                  case measure => simp [intOf]; omega
                · rw [htr] at HTr
                  have HX := Lib.hid htr
                  have HPl := Lib.hid (fun w => plane_of a b c w htr)
                  have HL9 := Lib.hid (tri_len htr)
                  clear htr
                  go_wp2_with fail
                  refine (HTr.out _).mono ?_
                  rintro e w5 ⟨rfl, q⟩
                  have HC := Lib.hid (HC.out.below q)
                  have HB := Lib.hid (chain0 HB.out q)
                  have K6 := Lib.hid (K6.out.below q)
                  have K8 := Lib.hid (K8.out.below q)
                  have K10 := Lib.hid (K10.out.below q)
                  clear q k6a k6b k6c k6d k8a k8b k8c k8d k10a k10b k10c k10d
                  obtain ⟨k6a, k6b, k6c, k6d⟩ := K6.out.cell
                  obtain ⟨k8a, k8b, k8c, k8d⟩ := K8.out.cell
                  obtain ⟨k10a, k10b, k10c, k10d⟩ := K10.out.cell
                  have t6 := K6.out.lt
                  have t8 := K8.out.lt
                  have tm := HC.out.lt
                  go_wp2_with fail
                  refine (HPl.out _).mono ?_
                  rintro e w6 ⟨rfl, _, q⟩
                  have HC := Lib.hid ((HC.out.below q).alloc (.cells z36 37))
                  have HB6 := Lib.hid (chain0 HB.out q)
                  have HB := Lib.hid (HB6.out.alloc HB6.out.size (.cells z36 37))
                  have K6 := Lib.hid ((K6.out.below q).alloc (.cells z36 37))
                  have K8 := Lib.hid ((K8.out.below q).alloc (.cells z36 37))
                  have h6w : g6 < w6.heap.size ∧ g8 < w6.heap.size ∧ gm < w6.heap.size := by
                    have := q.size
                    exact ⟨by omega, by omega, by omega⟩
                  clear t6 t8 tm
                  have KP : Hid (VB (w6.alloc (.cells z36 37)) w6.heap.size 37 z36) := Lib.hid (VB.newAt rfl rfl)
                  have hw6 := HB6.out.size
                  have HS0 := Lib.hid (av_size9 HL9.out)
                  have HS1 := Lib.hid (av_one (span [a, b, c]))
                  have HOk := Lib.hid (span_ok [a, b, c])
                  clear q HB6 k6a k6b k6c k6d k8a k8b k8c k8d k10a k10b k10c k10d K10
                  obtain ⟨P, hP⟩ : ∃ P, span [a, b, c] = P := ⟨_, rfl⟩
                  have HPe := Lib.hid hP
                  rw [hP] at HL9 HS0 HS1 HOk ⊢
                  clear hP
                  go_upto_region 15 with ((with_reducible refine store_s9 rfl _ _ rfl KP.out HZ.out ?_ (av P) HS0.out HS1.out ?_ ?_); rfl; rfl; intro w7 hM hG)
                  obtain ⟨g11, hg11⟩ : ∃ g, w6.heap.size = g := ⟨_, rfl⟩
                  rw [hg11] at hM hG h6w hw6
                  try rw [hg11]
                  have HC := Lib.hid (HC.out.kept hG (fun e => by injection e with e; omega))
                  have HB := Lib.hid (HB.out.grown hG HB.out.size (fun k hk => by injection hk with hk; omega))
                  have K6 := Lib.hid (off_box K6.out hG (by omega))
                  have K8 := Lib.hid (off_box K8.out hG (by omega))
                  have KP := Lib.hid hM
                  clear hM hG hg11
                  go_wp2_with fail
                  refine (has_all l P _ _ n cp 9 9 _ HN.out (by omega) HL9.out (by omega) (HR0.out.below HB.out) (vb_rd KP.out) HH.out.2.1 HH.out.2.2 HOk.out).mono ?_
                  rintro e w8 ⟨rfl, q⟩
                  have HC := Lib.hid (HC.out.below q)
                  have HB := Lib.hid (chain0 HB.out q)
                  have K6 := Lib.hid (K6.out.below q)
                  have K8 := Lib.hid (K8.out.below q)
                  have KP := Lib.hid (KP.out.below q)
                  clear q
                  cases hal : allIn l P
                  · have HC := Lib.hid (HSk.out _ HC.out (.inr (fun h => by
                      have h2 := (allIn_iff HH.out.2.2 HH.out.2.1 HOk.out).2 (by rw [← HPe.out]; exact h)
                      rw [hal] at h2; cases h2)))
                    clear hal
                    go_wp2_with fail
                    go_roundw
                    case rel => exact ⟨k + 1, by omega, by go_num, HC, HB, K6, K8⟩
                    case measure => simp [intOf]; omega
                  · have HIn := Lib.hid ((allIn_iff HH.out.2.2 HH.out.2.1 HOk.out).1 hal)
                    clear hal
                    obtain ⟨Ls, hM, hmem⟩ := HC.out
                    have HMem := Lib.hid hmem
                    have HMp := Lib.hid hM
                    clear hM hmem HC
                    go_wp2_with (first | ((with_reducible refine take_s9 rfl _ rfl KP.out HS0.out ?_ ?_); rfl) | (at_mapUpdate; refine plane_store rfl _ _ _ rfl gm (729 * i + 27 * j + k) Ls rfl HMp.out (by simp only [maxLen]; omega) P HL9.out HOk.out rfl rfl ?_; intro w9 hM9 hG9))
                    have HC9 : Hid (CpM w9 gm l i j (k + 1)) := Lib.hid ⟨_, hM9, fun Q => by
                      rw [addP_mem, HMem.out Q, ← HPe.out]
                      exact fnd_step hkt hjt HA.out HBb.out HCc.out HX.out (by rw [HPe.out]; exact HIn.out)⟩
                    have HB9 := Lib.hid (HB.out.grown hG9 HB.out.size (fun k hk => by injection hk with hk; omega))
                    have K69 := Lib.hid (off_box K6.out hG9 (by omega))
                    have K89 := Lib.hid (off_box K8.out hG9 (by omega))
                    clear hM9 hG9
                    go_roundw
                    case rel => exact ⟨k + 1, by omega, by go_num, HC9, HB9, K69, K89⟩
                    case measure => simp [intOf]; omega
              · obtain rfl : k = j := by omega
                have HC2 := Lib.hid (HC.out.row (by omega))
                go_wp2_with fail
                go_roundw
                case rel => exact ⟨k + 1, by omega, by go_num, HC2, HB, K6⟩
                case measure => simp [intOf]; omega
          · obtain rfl : j = i := by omega
            have HC2 := Lib.hid (HC.out.next (by omega))
            go_wp2_with fail
            go_roundw
            case rel => exact ⟨j + 1, by omega, by go_num, HC2, HB⟩
            case measure => simp [intOf]; omega
      · obtain rfl : i = n := by omega
        obtain ⟨Ls, hM, hmem⟩ := HC.out
        have HMp := Lib.hid hM
        have HL : Hid (Ls.length = plN l) := Lib.hid (plN_is (by obtain ⟨D, _, _, h3, _⟩ := hM; exact h3) (fun P => (hmem P).trans (fnd_all HN.out HH.out.2.2)))
        clear hM hmem HC
        go_wp2_with (at_len; refine plane_len rfl _ rfl gm _ Ls rfl HMp.out ?_)
        go_ret2
        exact ⟨by rw [HT.out, ← HL.out]; rfl, HB.out⟩
end Go.Proofs.Ytdhcdogmbclhaaa.planes
