/- greatestIn: what the closure does, and all visits. -/
import Derived.Test.YtbimbaogjknboaaVg
import Derived.Lib.SliceRun
namespace Go.Proofs.Ytbimbaogjknboaa.cards
open Go.RowKit
set_option linter.unusedVariables false

theorem ints_one : ∀ (l : List Int), ∀ u ∈ ints l, u.oneCell' = true := fun l u h => by
  obtain ⟨x, _, rfl⟩ := List.mem_map.1 h
  rfl
/-- All numbers of another slice are appended. -/
theorem append_ints {ops : Array Oper} {rest : List Oper} {o : Oper} {a : Act} {Q : Exit → Act → World → Prop} (hgd : o.guard = none) (s x : Operand)
    (ho : o.op = .call { callee := .builtin .append, args := #[s, x], argTypes := #[29, 29] }) (B : Nat) (v : Value) (l l2 : List Int) (g m c : Nat) (W : World)
    (hs : a.eval s = v) (hx : a.eval x = .slice (some ⟨g, 0, none⟩) m c) (hO : OwnI W B v l) (hm : l2.length = m) (hR : Rd W (some ⟨g, 0, none⟩) (ints l2)) (hl : l.length + m ≤ 1000000000) (hB : B ≤ W.heap.size)
    (h : ∀ v' w', OwnI w' B v' (l ++ l2) → (v ≠ .slice none 0 0 → v' ≠ .slice none 0 0) → Below B W w' → wpList Try.prog ops Q rest (a.put o.dst v') w') : wpList Try.prog ops Q (o :: rest) a W := by
  obtain ⟨i, hi, hz, hsz, hb⟩ := info_parts int_info
  refine wpList_append_own (P := Try.prog) W hgd s x 29 ho B 3 i (.int .i64 0) 1 8 Try.underlying29 hi hz hsz hb rfl (by decide) v l.length (ints l) hs hO ⟨g, 0, none⟩ m c (ints l2) hx (by rw [ints_len, hm]; omega) ?_ (ints_one l2) (by simp only [maxLen]; omega) (by omega) hB ?_
  · intro j u hu
    obtain ⟨b, o, e, _, hc⟩ := hR (Nat.lt_of_le_of_lt (Nat.zero_le _) (List.getElem?_eq_some_iff.1 hu).1)
    injection e with e
    injection e with e1 e2
    subst e1; subst e2
    have hadd : (⟨g, 0, none⟩ : Addr).add j = ⟨g, 0 + j, none⟩ := by unfold Addr.add; split <;> simp_all
    rw [hadd]; exact hc j u hu
  · intro v' w' h1 h2 h3
    refine h v' w' ?_ (fun hn e => hn (h3.1 e).1) ((Below.refl _ _).grown h2 hB (fun k hk => (World.ownsRow.lt hO k hk).1))
    unfold OwnI
    rw [List.length_append, hm]
    have e : ints (l ++ l2) = ints l ++ ints l2 := by simp [ints]
    rw [e]; exact h1

set_option maxRecDepth 100000 in
set_option maxHeartbeats 2000000 in
theorem clone_ints (ps : List Int) (g m c : Nat) (w : World) (hm : ps.length = m) (hl : m ≤ 1000000) (hr : Rd w (some ⟨g, 0, none⟩) (ints ps)) :
    Calls Try.prog 101 #[.slice (some ⟨g, 0, none⟩) m c] w fun e w' => ∃ u, e = .returned u ∧ OwnI w' w.heap.size u ps ∧ u ≠ .slice none 0 0 ∧ Below w.heap.size w w' := by
  have HM := Lib.hid hm
  have HR := Lib.hid hr
  have HO := Lib.hid (OwnI.empty w w.heap.size (Nat.le_refl _))
  have HB0 : Hid (Below w.heap.size w (w.alloc (.cells #[] 3))) := Lib.hid ((Below.refl _ _).alloc (Nat.le_refl _) _)
  have q22 : ∀ (w : World) (a : Option Addr) (n c n' c' : Nat), (binOp .eql 29 (.slice a n c) (.slice none n' c')).run Try.prog w = .ok (.bool a.isNone) w := fun w a n c n' c' => Lib.run_eql_slice_nil w _ _ a n c n' c' Try.underlying29
  clear hm hr
  go_enter Try.func101, Try.ntmps101
  go_wp2_with (at_builtin; refine append_ints rfl (.tmp 5) (.tmp 6) rfl w.heap.size (.slice (some ⟨w.heap.size, 0, none⟩) 0 0) [] ps g m c _ rfl rfl HO.out HM.out (HR.out.alloc _) (by simp; omega) HB0.out.size ?_; intro v1 w1 hO1 hN1 hB1)
  go_ret
  exact ⟨_, rfl, hO1, hN1 (by simp), HB0.out.trans hB1⟩

/-- The captured greatest one: its variable's block gv, and the slice in it. -/
def Jg (B gv : Nat) (w : World) (s : List Int) (S : Nat → Prop) : Prop := ∃ g c, w.heap[gv]? = some (.cells #[.slice (some ⟨g, 0, none⟩) s.length c] 29) ∧ OwnI w B (.slice (some ⟨g, 0, none⟩) s.length c) s ∧ B ≤ gv ∧ g ≠ gv ∧ S = (fun j => j = gv ∨ j = g)
theorem Jg.one {B gv : Nat} : ∀ w s S, Jg B gv w s S → ∀ j, S j → B ≤ j ∧ j < w.heap.size := by
  rintro w s S ⟨g, c, h1, h2, h3, h4, rfl⟩ j (rfl | rfl)
  · exact ⟨h3, (Array.getElem?_eq_some_iff.1 h1).1⟩
  · exact h2.span j rfl
theorem Jg.two {B gv : Nat} : ∀ w w' s S T, Jg B gv w s S → Turn T w w' → (∀ j, S j → ¬ T j) → Jg B gv w' s S := by
  rintro w w' s S T ⟨g, c, h1, h2, h3, h4, rfl⟩ ht hd
  refine ⟨g, c, (ht.block gv (Array.getElem?_eq_some_iff.1 h1).1 (hd gv (.inl rfl))).trans h1, ht.ownI h2 (fun x hx => ?_), h3, h4, rfl⟩
  have : g = x := by simpa [Value.ownBlock] using hx
  rw [← this]; exact hd g (.inr rfl)

set_option maxRecDepth 100000 in
set_option maxHeartbeats 4000000 in
theorem greatest_fun (w0 : World) (gv : Nat) : ∀ w s S (ps : List Int) (g m c : Nat), Jg w0.heap.size gv w s S → Below w0.heap.size w0 w → Rd w (some ⟨g, 0, none⟩) (ints ps) → ps.length = m → m ≤ 1000 →
    Calls Try.prog 100 #[.slice (some ⟨g, 0, none⟩) m c, .pointer (some ⟨gv, 0, none⟩)] w fun e w' => e = .returned (.tuple #[]) ∧ ∃ S', Jg w0.heap.size gv w' (gf s ps) S' ∧ Turn S w w' ∧ ∀ j, S' j → S j ∨ w.heap.size ≤ j := by
  rintro w s S ps g m c ⟨gs, cs, h1, h2, h3, h4, rfl⟩ hB hr hm hl
  have hgv := (Array.getElem?_eq_some_iff.1 h1).1
  have hc0 : w.cell? ⟨gv, 0, none⟩ = some (.slice (some ⟨gs, 0, none⟩) s.length cs) := (cell_of_row w gv 0 _ _ _ h1).trans rfl
  have HM := Lib.hid hm
  have HR := Lib.hid hr
  have H1 := Lib.hid h1
  have H2 := Lib.hid h2
  have H3 := Lib.hid h3
  have H4 := Lib.hid h4
  have Hgv := Lib.hid hgv
  have HBs := Lib.hid hB.size
  obtain ⟨k, hk⟩ : ∃ k, s.length = k := ⟨_, rfl⟩
  have HKs := Lib.hid hk
  rw [hk] at hc0
  clear hm hr h1 h2 h3 h4 hgv hB hk
  by_cases hlt : k < m
  · have HG := Lib.hid (show gf s ps = ps by unfold gf; rw [if_pos (by rw [HKs.out, HM.out]; exact hlt)])
    have hd : (k : Int) < (m : Int) := by omega
    go_enter Try.func100, Try.ntmps100
    go_wp2_with fail
    refine (clone_ints ps g m c w HM.out (by omega) HR.out).mono ?_
    rintro e w1 ⟨u, rfl, hu, hun, b⟩
    have Hb := Lib.hid b
    have h1' := (b.block gv Hgv.out).trans H1.out
    have hc1 : w1.cell? ⟨gv, 0, none⟩ = some (.slice (some ⟨gs, 0, none⟩) s.length cs) := (cell_of_row w1 gv 0 _ _ _ h1').trans rfl
    have hf1 : w1.frozen? ⟨gv, 0, none⟩ = false := frozen_of_row w1 gv 0 _ _ h1'
    have H1' := Lib.hid h1'
    have HU := Lib.hid hu
    have HUn := Lib.hid hun
    clear b hu hun h1' hc0
    obtain ⟨_, ⟨x, _⟩ | ⟨gu, cap, cur, rfl, hBu, hgu, hn, hcm, hcs, htk⟩⟩ := HU.out
    · exact absurd x HUn.out
    · have Q1 := Lib.hid hBu
      have Q2 := Lib.hid hgu
      have Q3 := Lib.hid hn
      have Q4 := Lib.hid hcm
      have Q5 := Lib.hid hcs
      have Q6 := Lib.hid htk
      clear hBu hgu hn hcm hcs htk
      go_wp2_with fail
      go_end0
      have hBu := Q1.out
      have hgu := Q2.out
      have hn := Q3.out
      have hcm := Q4.out
      have hcs := Q5.out
      have htk := Q6.out
      have hne : gu ≠ gv := by have := Hgv.out; omega
      have hO2 : OwnI (w1.setCell ⟨gv, 0, none⟩ (.slice (some ⟨gu, 0, none⟩) ps.length cap)) w0.heap.size (.slice (some ⟨gu, 0, none⟩) ps.length cap) ps :=
        ⟨by rw [ints_len]; omega, .inr ⟨gu, cap, cur, rfl, by have := HBs.out; omega, (heap_setCell_other w1 ⟨gv, 0, none⟩ gu _ hne).trans hgu, hn, hcm, hcs, htk⟩⟩
      refine ⟨rfl, fun j => j = gv ∨ j = gu, ⟨gu, cap, ?_, by rw [HG.out]; exact hO2, H3.out, hne, rfl⟩, ?_, ?_⟩
      · rw [HG.out]
        exact heap_setCell_same w1 gv 0 _ _ _ H1'.out
      · exact ⟨Hb.out.os, Hb.out.tape, Hb.out.output, by have := Hb.out.size; simpa using this, fun j hj hs => (heap_setCell_other w1 ⟨gv, 0, none⟩ j _ (fun e => hs (.inl e))).trans (Hb.out.block j hj)⟩
      · rintro j (rfl | rfl)
        · exact .inl (.inl rfl)
        · exact .inr hBu
  · have HG := Lib.hid (show gf s ps = s by unfold gf; rw [if_neg (by rw [HKs.out, HM.out]; exact hlt)])
    have hd : ¬ (k : Int) < (m : Int) := by omega
    go_enter Try.func100, Try.ntmps100
    go_wp2_with fail
    go_end0
    exact ⟨rfl, fun j => j = gv ∨ j = gs, ⟨gs, cs, by rw [HG.out]; exact H1.out, by rw [HG.out]; exact H2.out, H3.out, H4.out, rfl⟩, Turn.refl _ _, fun j h => .inl h⟩
end Go.Proofs.Ytbimbaogjknboaa.cards
