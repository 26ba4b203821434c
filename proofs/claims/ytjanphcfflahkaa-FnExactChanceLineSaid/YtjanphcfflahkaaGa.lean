/- All draws visited. -/
import Derived.Test.YtjanphcfflahkaaG7
import Derived.Test.YtjanphcfflahkaaG9
import Derived.Deep.Cut
namespace Go.Proofs.Ytjanphcfflahkaa.chance
open Go.RowKit
open cards reg
set_option linter.unusedVariables false

theorem then_ {S T : Nat → Prop} {w a b : World} (h : Turn S w a) (k : Turn T a b) (hT : ∀ j, j < w.heap.size → T j → S j) : Turn S w b :=
  ⟨k.os.trans h.os, k.tape.trans h.tape, k.output.trans h.output, Nat.le_trans h.size k.size, fun j hj hs => (k.block j (Nat.lt_of_lt_of_le hj h.size) (fun ht => hs (hT j hj ht))).trans (h.block j hj hs)⟩
theorem rd_tail {w : World} {b ad k cp : Nat} {l : List Cd} (h : Rd w (some ⟨b, ad, none⟩) (flat l)) (hk : l.length ≤ cp) : Rd w (some ⟨b, if cp = k then ad else ad + k * 4, none⟩) (flat (l.drop k)) := by
  split
  · rename_i e
    rw [List.drop_of_length_le (by omega)]
    exact fun hp => by simp [flat] at hp
  · exact h.drop k
theorem tot_cons (f : List Cd → Nat) {n j : Nat} {l b : List Cd} {x : Cd} (hx : l[j]? = some x) : tot f (n + 1) (l.drop j) b = tot f n (l.drop (j + 1)) (b ++ [x]) + tot f (n + 1) (l.drop (j + 1)) b := by
  obtain ⟨hj, e⟩ := List.getElem?_eq_some_iff.1 hx
  rw [List.drop_eq_getElem_cons hj, e, tot]
theorem sub_cons {l b l0 : List Cd} {j : Nat} {x : Cd} (hx : l[j]? = some x) (h : (b ++ l).Sublist l0) : ((b ++ [x]) ++ l.drop (j + 1)).Sublist l0 := by
  obtain ⟨hj, e⟩ := List.getElem?_eq_some_iff.1 hx
  have h1 : ((b ++ [x]) ++ l.drop (j + 1)) = b ++ l.drop j := by rw [List.drop_eq_getElem_cons hj, e]; simp
  rw [h1]
  exact (List.Sublist.append (List.Sublist.refl b) (List.drop_sublist j l)).trans h

set_option maxRecDepth 100000 in
set_option maxHeartbeats 8000000 in
theorem visit_draws (fn : FuncId) (first caps : Array Value) (w0 : World) (l0 : List Cd) (N : Nat) (cnt : List Cd → Nat) (HC : CountAt fn first caps w0 l0 N cnt) (gs gf gd : Nat) (hg0 : w0.heap.size ≤ gs ∧ w0.heap.size ≤ gd) :
    ∀ (n : Nat) (l b : List Cd) (p : Option Addr) (k cp : Nat) (g m c : Nat) (s d : Int) (w : World), l.length = k → k ≤ cp → k ≤ 1000000 → b.length = m → m + n = N → N ≤ 1000 → m ≤ c → (b ++ l).Sublist l0 → Below w0.heap.size w0 w → Rd w0 p (flat l) →
      Sums w gs gf gd (.func (.func fn) first caps) s d → Own w w0.heap.size (.slice (some ⟨g, 0, none⟩) m c) b → (g ≠ gs ∧ g ≠ gd ∧ g ≠ gf) → (0 ≤ s ∧ s + tot cnt n l b ≤ 1000000000000000) → (0 ≤ d ∧ d + cho k n ≤ 1000000000000000) →
      Calls Try.prog 124 #[.slice p k cp, .int .i64 n, .slice (some ⟨g, 0, none⟩) m c, .func (.func 125) #[] #[.pointer (some ⟨gs, 0, none⟩), .pointer (some ⟨gf, 0, none⟩), .pointer (some ⟨gd, 0, none⟩)]] w fun e w' => e = .returned (.tuple #[]) ∧
        Sums w' gs gf gd (.func (.func fn) first caps) (s + tot cnt n l b) (d + cho k n) ∧ Turn (fun j => j = gs ∨ j = gd ∨ j = g) w w' ∧ Own w' w0.heap.size (.slice (some ⟨g, 0, none⟩) m c) b := by
  have HCO := Lib.hid HC
  have HG0 := Lib.hid hg0
  clear HC hg0
  intro n
  induction n with
  | zero =>
    intro l b p k cp g m c s d w hk hkc hcp hm hmn hN hmc hsub hw hr hJ hO hne hs hd
    rw [tot_zero] at hs
    rw [cho_zero] at hd
    rw [tot_zero, cho_zero]
    have hvis := visit_one fn first caps w0 l0 N cnt HCO.out gs gf gd s d b g m c w hw hO.rd ((List.sublist_append_left b l).trans hsub) hm (by omega) hmc hJ hs hd
    have HO := Lib.hid hO
    have HNE := Lib.hid hne
    have HV := Lib.hid hvis
    clear hvis hO hJ hw hr hsub hs hd hne
    go_enter Try.func124, Try.ntmps124
    go_wp2_with fail
    refine HV.out.mono ?_
    rintro e w1 ⟨rfl, hj1, ht1⟩
    have HJ1 := Lib.hid hj1
    have HT1 := Lib.hid ht1
    clear hj1 ht1
    try go_end0
    go_wp2_with fail
    try go_end0
    refine bodyPost_ret (v := .tuple #[]) (by kernel_rfl) rfl ?_
    exact ⟨rfl, HJ1.out, HT1.out.weak (fun j _ h => h.elim .inl (fun h => .inr (.inl h))), HT1.out.own HO.out (fun x hx h => by
      have e : g = x := by simpa [Value.ownBlock] using hx
      have := HNE.out
      omega)⟩
  | succ n ih =>
    intro l b p k cp g m c s d w hk hkc hcp hm hmn hN hmc hsub hw hr hJ hO hne hs hd
    have IH := Lib.hid ih
    have HK := Lib.hid hk
    have HM := Lib.hid hm
    have HSub := Lib.hid hsub
    have HW := Lib.hid hw
    have HR0 := Lib.hid hr
    have HJ := Lib.hid hJ
    have HO := Lib.hid hO
    have HNE := Lib.hid hne
    have HTe := Lib.hid (show ∃ t : Int, t = s + (tot cnt (n + 1) l b : Nat) from ⟨_, rfl⟩)
    obtain ⟨t, ht⟩ : ∃ t : Int, s + (tot cnt (n + 1) l b : Nat) = t := ⟨_, rfl⟩
    obtain ⟨u, hu⟩ : ∃ u : Int, d + (cho k (n + 1) : Nat) = u := ⟨_, rfl⟩
    rw [ht, hu]
    rw [ht] at hs
    rw [hu] at hd
    have HT := Lib.hid ht
    have HU := Lib.hid hu
    have HS := Lib.hid hs
    have HD := Lib.hid hd
    clear ih hk hm hsub hw hr hJ hO hne ht hu hs hd HTe
    obtain ⟨N1, hN1⟩ : ∃ N1 : Int, N1 = ((n + 1 : Nat) : Int) := ⟨_, rfl⟩
    rw [← hN1]
    have HN1 := Lib.hid hN1
    have h1 : 1 ≤ N1 := by omega
    have h2 : N1 ≤ 1000 := by omega
    have h0 : (N1 == 0) = false := by simp only [beq_eq_false_iff_ne, ne_eq]; omega
    have h4 : ¬ N1 = 0 := by omega
    have h3 : (k : Int) ≤ 1000000 := by omega
    clear hN1
    go_enter Try.func124, Try.ntmps124
    go_wp2_with fail
    go_loopw [19] (fun i wr => ∃ (j : Nat) (s' d' : Int), j ≤ k ∧ i = .int .i64 j ∧ Hid (Sums wr gs gf gd (.func (.func fn) first caps) s' d') ∧ Hid (0 ≤ s' ∧ s' + tot cnt (n + 1) (l.drop j) b = t) ∧ Hid (0 ≤ d' ∧ d' + cho (k - j) (n + 1) = u) ∧ Hid (Own wr w0.heap.size (.slice (some ⟨g, 0, none⟩) m c) b) ∧ Hid (Turn (fun j => j = gs ∨ j = gd ∨ j = g) w wr)) (fun i _ => k - (intOf i).toNat)
    case atStart => exact ⟨0, s, d, Nat.zero_le _, rfl, HJ, Lib.hid ⟨HS.out.1, by rw [List.drop_zero]; exact HT.out⟩, Lib.hid ⟨HD.out.1, by rw [Nat.sub_zero]; exact HU.out⟩, HO, Lib.hid (Turn.refl _ _)⟩
    case round =>
      clear HJ HO
      obtain ⟨j, s', d', hjk, rfl, HJ, HTs, HUd, HO, HTw⟩ := hrel
      have HBr : Hid (Below w0.heap.size w0 wr) := Lib.hid (Turn.below HW.out HW.out.size HTw.out (fun x hx => by
        have h1 := HG0.out
        have h2 := (HO.out.span g rfl).1
        omega))
      by_cases hlt : (j : Int) < k - N1 + 1
      · have hjk2 : j < k := by omega
        have HR := Lib.hid (HR0.out.below HBr.out)
        obtain ⟨bb, o, x, rfl, hb, hx, c0, c1, c2, c3⟩ := HR0.out.card (k := j) (by rw [HK.out]; exact hjk2)
        have m1 : (j : Int) < (k : Int) := by omega
        have m2 : (0 : Int) ≤ (j : Int) := by omega
        have HX := Lib.hid hx
        have HCx := Lib.hid (show ∀ w', Below w0.heap.size w0 w' → w'.cell? ⟨bb, o + j * 4, none⟩ = some (.int .i64 x.a) ∧ w'.cell? ⟨bb, o + j * 4 + 1, none⟩ = some (.int .i64 x.b) ∧ w'.cell? ⟨bb, o + j * 4 + 2, none⟩ = some (.int .i64 x.c) ∧ w'.cell? ⟨bb, o + j * 4 + 3, none⟩ = some (.int .i64 x.d) from fun w' h => ⟨(h.cell (p := ⟨bb, o + j * 4, none⟩) hb).trans c0, (h.cell (p := ⟨bb, o + j * 4 + 1, none⟩) hb).trans c1, (h.cell (p := ⟨bb, o + j * 4 + 2, none⟩) hb).trans c2, (h.cell (p := ⟨bb, o + j * 4 + 3, none⟩) hb).trans c3⟩)
        clear c0 c1 c2 c3 hx
        go_upto_region 5 with fail
        have hN1 : N1 - 1 = (n : Int) := by have := HN1.out; omega
        refine region_seq [0, 1, 2, 3, 4, 5, 6, 7, 8, 9, 10, 13] [11, 12, 14] (by kernel_rfl) (by kernel_rfl) rfl (by kernel_rfl) (fun w' => w'.cell? ⟨bb, o + j * 4, none⟩ = some (.int .i64 x.a) ∧ w'.cell? ⟨bb, o + j * 4 + 1, none⟩ = some (.int .i64 x.b) ∧ w'.cell? ⟨bb, o + j * 4 + 2, none⟩ = some (.int .i64 x.c) ∧ w'.cell? ⟨bb, o + j * 4 + 3, none⟩ = some (.int .i64 x.d)) (fun w' h => HCx.out w' (HBr.out.trans (Below.mono h HBr.out.size))) ?_
        refine j_pure 22 (v := .slice (some ⟨bb, o, none⟩) k cp) rfl rfl rfl (fun w => by kernel_rfl) ?_
        refine j_pure 23 (v := .int .i64 j) rfl rfl rfl (fun w => by kernel_rfl) ?_
        refine j_pure 24 (v := .int .i64 ((j : Int) + 1)) rfl rfl rfl (exec_add1 (by omega) rfl (by kernel_rfl)) ?_
        refine j_pure 25 rfl rfl rfl (exec_tail (k := j + 1) (n := k) (b := bb) (ad := o) (cp := cp) (by omega) hkc rfl (by kernel_rfl) (by kernel_rfl)) ?_
        refine j_pure 26 (v := .int .i64 N1) rfl rfl rfl (fun w => by kernel_rfl) ?_
        refine j_pure 27 (v := .int .i64 n) rfl rfl rfl (exec_less1 hN1 (by omega) rfl (by kernel_rfl)) ?_
        refine j_pure 28 (v := .slice (some ⟨g, 0, none⟩) m c) rfl rfl rfl (fun w => by kernel_rfl) ?_
        refine j_pure 29 (v := .slice (some ⟨bb, o, none⟩) k cp) rfl rfl rfl (fun w => by kernel_rfl) ?_
        refine j_pure 30 (v := .int .i64 j) rfl rfl rfl (fun w => by kernel_rfl) ?_
        refine j_pure 31 (v := .pointer (some ⟨bb, o + j * 4, none⟩)) rfl rfl rfl (exec_indexS (n := k) (cp := cp) hjk2 rfl (by kernel_rfl) (by kernel_rfl)) ?_
        refine j_card 32 (g := bb) (off := o + j * 4) rfl rfl rfl _ rfl (by kernel_rfl) x (fun w' h => h) ?_
        refine j_pure 35 (v := .func (.func 125) #[] #[.pointer (some ⟨gs, 0, none⟩), .pointer (some ⟨gf, 0, none⟩), .pointer (some ⟨gd, 0, none⟩)]) rfl rfl rfl (fun w => by kernel_rfl) ?_
        intro wa hI
        have hIa := (HBr.out.trans (Below.mono hI HBr.out.size)).alloc (HBr.out.trans (Below.mono hI HBr.out.size)).size x.obj
        refine u_val (v := .slice (some ⟨wa.heap.size, 0, none⟩) 1 1) rfl rfl (exec_lit rfl (by kernel_rfl) wa) (HCx.out _ hIa) ?_
        have hOa := (HO.out.below hI).alloc x.obj
        have hIx : BI wr (wa.alloc x.obj) := Below.alloc hI (Below.size hI) _
        obtain ⟨g4, c4, w4, hrun, hO4, hc4, hK4, hG4, hat⟩ := run_push (wa.alloc x.obj) 29 w0.heap.size m c g b x wa.heap.size HM.out hOa (Box.new wa x) (by omega) hIa.size
        have hgl : g < (wa.alloc x.obj).heap.size := hOa.lt g rfl
        have hB4 : Below w0.heap.size w0 w4 := Turn.below hIa hIa.size (Turn.of_grown hG4) (fun y hy => by injection hy with hy; have := (HO.out.span g rfl).1; omega)
        refine u_val (v := .slice (some ⟨g4, 0, none⟩) (m + 1) c4) rfl rfl (exec_push rfl (by kernel_rfl) (by kernel_rfl) hrun) (HCx.out _ hB4) ?_
        have hne := HNE.out
        have hJx := (HJ.out.below hIx)
        have hJ4 : Sums w4 gs gf gd (.func (.func fn) first caps) s' d' := hJx.by_ (Turn.of_grown hG4) (fun e => by injection e with e; exact hne.1 e.symm) (fun e => by injection e with e; exact hne.2.1 e.symm) (fun e => by injection e with e; exact hne.2.2 e.symm)
        have hne4 : g4 ≠ gs ∧ g4 ≠ gd ∧ g4 ≠ gf := by
          have h1 := hJx.s0.lt
          have h2 := hJx.d0.lt
          have h3 := hJx.f0.lt
          omega
        have htc := tot_cons cnt (n := n) (b := b) HX.out
        have hcc : cho (k - j) (n + 1) = cho (k - (j + 1)) n + cho (k - (j + 1)) (n + 1) := by rw [show k - j = (k - (j + 1)) + 1 by omega, cho]
        have hTs := HTs.out
        have hUd := HUd.out
        rw [htc] at hTs
        rw [hcc] at hUd
        have hS := HS.out
        have hD := HD.out
        refine u_call (f := 124) (args := #[.slice (some ⟨bb, if cp = j + 1 then o else o + (j + 1) * 4, none⟩) (k - (j + 1)) (cp - (j + 1)), .int .i64 n, .slice (some ⟨g4, 0, none⟩) (m + 1) c4, .func (.func 125) #[] #[.pointer (some ⟨gs, 0, none⟩), .pointer (some ⟨gf, 0, none⟩), .pointer (some ⟨gd, 0, none⟩)]]) rfl rfl (by kernel_rfl) ((IH.out (l.drop (j + 1)) (b ++ [x]) _ (k - (j + 1)) (cp - (j + 1)) g4 (m + 1) c4 s' d' w4 (by rw [List.length_drop, HK.out]) (by omega) (by omega) (by rw [List.length_append, HM.out]; rfl) (by omega) hN hc4 (sub_cons HX.out HSub.out) hB4 (rd_tail HR0.out (by rw [HK.out]; exact hkc)) hJ4 hO4 hne4 (by omega) (by omega)).mono ?_)
        rintro e w5 ⟨rfl, hJ5, hT5, hO5⟩
        have hB5 : Below w0.heap.size w0 w5 := Turn.below hB4 hB4.size hT5 (fun y hy => by
          have h1 := HG0.out
          have h2 := (HO.out.span g rfl).1
          have h3 := hIa.size
          omega)
        refine ⟨_, rfl, HCx.out _ hB5, ?_⟩
        have hza := Below.size hI
        have hzb : (wa.alloc x.obj).heap.size = wa.heap.size + 1 := by simp
        have hTw : Turn (fun j => j = gs ∨ j = gd ∨ j = g) wr w5 := then_ (then_ ((Turn.of_below hIx).weak (fun _ _ h => h.elim)) (Turn.of_grown hG4) (fun y _ h => by injection h with h; exact .inr (.inr h))) hT5 (fun y hy h => by
          rcases h with h | h | h
          · exact .inl h
          · exact .inr (.inl h)
          · rcases hat with e | e
            · exact .inr (.inr (h.trans e))
            · omega)
        have HTn := Lib.hid (HTw.out.trans hTw)
        have HJ5 := Lib.hid hJ5
        have HO5 : Hid (Own w5 w0.heap.size (.slice (some ⟨g, 0, none⟩) m c) b) := Lib.hid (Own.backC hK4 hO4 hO5 hT5 (fun h e => by omega) HM.out)
        have HTs5 : Hid (0 ≤ s' + (tot cnt n (l.drop (j + 1)) (b ++ [x]) : Nat) ∧ s' + (tot cnt n (l.drop (j + 1)) (b ++ [x]) : Nat) + (tot cnt (n + 1) (l.drop (j + 1)) b : Nat) = t) := Lib.hid (by omega)
        have HUd5 : Hid (0 ≤ d' + (cho (k - (j + 1)) n : Nat) ∧ d' + (cho (k - (j + 1)) n : Nat) + (cho (k - (j + 1)) (n + 1) : Nat) = u) := Lib.hid (by omega)
        clear hTw hT5 hJ5 hO5 hB5 hB4 hJ4 hO4 hK4 hG4 hat hIx hIa hI hOa hgl hJx hTs hUd htc hcc hrun HJ HO HTw HTs HUd HBr HR
        simp only [runsU, Act.put, List.setIfInBounds_toArray, List.set_cons_zero, List.set_cons_succ]
        generalize (if cp = j + 1 then o else o + (j + 1) * 4) = pp
        generalize s' + (tot cnt n (l.drop (j + 1)) (b ++ [x]) : Nat) = s5 at *
        generalize d' + (cho (k - (j + 1)) n : Nat) = d5 at *
        go_wp2_with fail
        go_roundw
        case rel => exact ⟨j + 1, s5, d5, by omega, by go_num, HJ5, HTs5, HUd5, HO5, HTn⟩
        case measure => simp [intOf]; omega
      · go_wp2_with fail
        go_end0
        have hsh : tot cnt (n + 1) (l.drop j) b = 0 := tot_short cnt (by rw [List.length_drop, HK.out]; have := HN1.out; omega)
        have hch : cho (k - j) (n + 1) = 0 := cho_none (by have := HN1.out; omega)
        have h8 := HTs.out.2
        have h9 := HUd.out.2
        rw [hsh] at h8
        rw [hch] at h9
        have e1 : s' = t := by omega
        have e2 : d' = u := by omega
        rw [← e1, ← e2]
        exact ⟨rfl, HJ.out, HTw.out, HO.out⟩
end Go.Proofs.Ytjanphcfflahkaa.chance
