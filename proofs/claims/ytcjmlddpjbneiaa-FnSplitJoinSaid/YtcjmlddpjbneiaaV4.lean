/- Draws of lists of texts. -/
import Derived.Test.YtcjmlddpjbneiaaV2
import Derived.Test.YtcjmlddpjbneiaaKe
import Derived.Maps.AppendAt
import Derived.Laws.OwnMore
import Derived.IntWalk
namespace Go.Proofs.Ytcjmlddpjbneiaa.draw
open Go.RowKit
open cards
set_option linter.unusedVariables false

def OwnT (w : World) (B : Nat) (v : Value) (l : List ByteArray) : Prop := w.ownsRow B 9 1 v l.length (tx l)
theorem OwnT.form {w : World} {B : Nat} {v : Value} {l : List ByteArray} (h : OwnT w B v l) : ∃ p c, v = .slice p l.length c ∧ l.length ≤ c ∧ Rd w p (tx l) := by
  rcases h.2 with ⟨rfl, h0⟩ | ⟨g, cap, cur, rfl, hB, hg, hc, hm, hs, hx⟩
  · exact ⟨none, 0, by rw [h0], by omega, fun hp => by rw [tx_len] at hp; omega⟩
  · refine ⟨_, cap, rfl, hc, fun hp => ⟨g, 0, rfl, (Array.getElem?_eq_some_iff.1 hg).1, fun j v hv => ?_⟩⟩
    have hj : j < l.length := by have := (List.getElem?_eq_some_iff.1 hv).1; rwa [tx_len] at this
    rw [Nat.zero_add, World.ownsRow.cellAt h j (by omega)]
    exact hv
theorem OwnT.grown {w w1 : World} {B g : Nat} {v : Value} {l : List ByteArray} (h : OwnT w B v l) (G : w.grownBy w1 (some g)) (hg : g < B) : OwnT w1 B v l :=
  World.ownsRow.kept h G (by
    cases hv : v.ownBlock with
    | none => exact .inl rfl
    | some r => exact .inr (fun e => by have := (World.ownsRow.lt h r hv).1; injection e with e; omega))
theorem OwnT.alloc {w : World} {B : Nat} {v : Value} {l : List ByteArray} (h : OwnT w B v l) (o : Obj) : OwnT (w.alloc o) B v l := World.ownsRow.alloc h o
theorem OwnT.base {w : World} {B B' : Nat} {v : Value} {l : List ByteArray} (h : OwnT w B v l) (hB : B' ≤ B) : OwnT w B' v l := by
  refine ⟨h.1, ?_⟩
  rcases h.2 with h0 | ⟨g, cap, cur, e, hb, r⟩
  · exact .inl h0
  · exact .inr ⟨g, cap, cur, e, by omega, r⟩
theorem OwnT.empty (w : World) (B : Nat) (hB : B ≤ w.heap.size) : OwnT (w.alloc (.cells #[] 9)) B (.slice (some ⟨w.heap.size, 0, none⟩) 0 0) [] :=
  World.ownsRow_made (e := 9) (size := 1) w #[] 0 hB (by unfold maxLen; omega) rfl
theorem t_info : ((Try.prog).info? 9).map (fun i => (i.zero, i.size, i.bytes)) = some (some (.string ⟨#[]⟩), 1, 16) := by kernel_rfl
theorem b_info : ((Try.prog).info? 5).map (fun i => (i.zero, i.size, i.bytes)) = some (some (.int .u8 0), 1, 1) := by kernel_rfl
theorem tx_one : ∀ (l : List ByteArray), ∀ u ∈ tx l, u.oneCell' = true := fun l u h => by
  obtain ⟨x, _, rfl⟩ := List.mem_map.1 h
  rfl
/-- One text is appended. -/
theorem append_tx {ops : Array Oper} {rest : List Oper} {o : Oper} {a : Act} {Q : Exit → Act → World → Prop} (hgd : o.guard = none) (s x : Operand)
    (ho : o.op = .call { callee := .builtin .append, args := #[s, x], argTypes := #[26, 26] }) (B : Nat) (v : Value) (l : List ByteArray) (q : ByteArray) (W : World) (g : Nat) (hg : W.heap.size = g)
    (hs : a.eval s = v) (hx : a.eval x = .slice (some ⟨g, 0, none⟩) 1 1) (hO : OwnT W B v l) (hl : l.length ≤ 1000000) (hB : B ≤ W.heap.size)
    (h : ∀ v' w', OwnT w' B v' (l ++ [q]) → W.grownBy w' v.ownBlock → wpList Try.prog ops Q rest (a.put o.dst v') w') : wpList Try.prog ops Q (o :: rest) a (W.alloc (.cells #[.string q] 9)) := by
  subst hg
  obtain ⟨i, hi, hz, hsz, hb⟩ := info_parts t_info
  refine wpList_append_own (P := Try.prog) (W.alloc (.cells #[.string q] 9)) hgd s x 26 ho B 9 i (.string ⟨#[]⟩) 1 16 Try.underlying26 hi hz hsz hb rfl (by decide) v l.length (tx l) hs (hO.alloc _) ⟨W.heap.size, 0, none⟩ 1 1 [.string q] hx rfl (cell_one_new _ _ _) (by simp [Value.oneCell']) (by unfold maxLen; omega) (by omega) (by simp; omega) ?_
  intro v' w' h1 h2 _
  refine h v' w' ?_ ((World.grownBy_alloc W _ _).trans h2)
  unfold OwnT
  rw [List.length_append]
  have e : tx (l ++ [q]) = tx l ++ [.string q] := by simp [tx]
  rw [e]; exact h1
/-- The cursor behind the growth of another row. -/
theorem Cur.past {w w1 : World} {g : Nat} {p : Option Addr} {n c : Nat} {l : List Int} {N B : Nat} {v : Value} {L : List ByteArray} (h : Cur w g p n c l N) (hO : OwnT w B v L) (G : w.grownBy w1 v.ownBlock) (hg : g < B) (hf : Far p n B) : Cur w1 g p n c l N := by
  cases hv : v.ownBlock with
  | none =>
    rw [hv] at G
    exact h.below ⟨G.os, G.tape, G.output, G.size, fun k hk => G.block k hk (by simp)⟩
  | some r =>
    rw [hv] at G
    have hr := (World.ownsRow.lt hO r hv).1
    exact h.by_ G (by omega) (fun h0 q e => Nat.lt_of_lt_of_le (hf h0 q e) hr)
theorem below_past {w0 w w1 : World} {B : Nat} {v : Value} {L : List ByteArray} (hb : Below w0.heap.size w0 w) (hO : OwnT w B v L) (G : w.grownBy w1 v.ownBlock) (hB : w0.heap.size ≤ B) : Below w0.heap.size w0 w1 :=
  Below.grown hb G hb.size (fun k e => Nat.le_trans hB (World.ownsRow.lt hO k e).1)
theorem str_size (l : List Int) : (strOfNums l).size = l.length := by
  show (l.map (fun n => UInt8.ofNat n.toNat)).toArray.size = _
  simp
theorem made_by (K : Nat) (hK : K ≤ 1000000) (w : World) : (Instr.makeSlice 22 (.int .i64 K) (.int .i64 K)).run Try.prog w = .ok (.slice (some ⟨w.heap.size, 0, none⟩) K K) (w.alloc (.cells (madeCells #[Value.int .u8 0] K) 5)) := by
  obtain ⟨i, hi, hz, hs, hb⟩ := info_parts b_info
  have h := run_make (P := Try.prog) w 22 5 i _ Try.underlying22 hi hz .i64 .i64 K K (by omega) (by omega) (by rw [hb]; omega) (by omega)
  rw [hs, Nat.mul_one] at h
  exact h
theorem conv_made (K : Nat) (w : World) :
    (convert 22 9 (.slice (some ⟨w.heap.size, 0, none⟩) K K)).run Try.prog (w.alloc (.cells (madeCells #[Value.int .u8 0] K) 5)) = .ok (.string (strOfNums (List.replicate K 0))) (w.alloc (.cells (madeCells #[Value.int .u8 0] K) 5)) :=
  run_convert_bytes_arg (P := Try.prog) (w := w.alloc (.cells (madeCells #[Value.int .u8 0] K) 5)) 22 5 Try.underlying22 Try.underlying5 w.heap.size 0 K K (List.replicate K 0) (by simp) (fun i hi => by
    rw [Nat.zero_add, World.cell?_alloc_at _ _ _ _ rfl]
    simp [madeCells, hi, Nat.mod_one]) 9 Try.underlying9
set_option maxRecDepth 100000 in
set_option maxHeartbeats 4000000 in
theorem draw_join (p : Option Addr) (n c : Nat) (l : List Int) (w : World) (hm : n ≤ 1000000000) (hr : Rd w p (bys l)) (hl : l.length = n) (hy : isByte l) :
    Calls Try.prog 10 #[.slice p n c] w fun e w' => ∃ (v : Value) (L : List ByteArray) (q : ByteArray), e = .returned (.tuple #[v, .string q]) ∧ OwnT w' w.heap.size v L ∧ L.length ≤ 10 ∧ (∀ x ∈ L, x.size ≤ 5000) ∧ q.size ≤ 20 ∧ Below w.heap.size w w' := by
  have HC : Hid (Cur ((w.alloc (Cv.obj ⟨.slice p n c, 0, 0⟩)).alloc (.cells #[] 9)) w.heap.size p n c l 0) := Lib.hid ((Cur.new rfl hr hl hy).alloc _)
  have HB : Hid (Below w.heap.size w ((w.alloc (Cv.obj ⟨.slice p n c, 0, 0⟩)).alloc (.cells #[] 9))) := Lib.hid (((Below.refl _ _).alloc (Nat.le_refl _) _).alloc (by simp) _)
  have HO : Hid (OwnT ((w.alloc (Cv.obj ⟨.slice p n c, 0, 0⟩)).alloc (.cells #[] 9)) (w.heap.size + 1) (.slice (some ⟨w.heap.size + 1, 0, none⟩) 0 0) []) := Lib.hid (by have h := OwnT.empty (w.alloc (Cv.obj ⟨.slice p n c, 0, 0⟩)) (w.heap.size + 1) (by simp); simpa using h)
  have HF : Hid (Far p n (w.heap.size + 1)) := Lib.hid (fun h0 q e => by obtain ⟨b, o, e2, hb, _⟩ := hr (by simp; omega); rw [e2] at e; cases e; exact Nat.lt_succ_of_lt hb)
  clear hr hl hy
  go_enter Try.func10, Try.ntmps10
  go_wp2_with fail
  refine (pick_ 4 w.heap.size p n c l 0 _ (by omega) hm (by omega) (by omega) HC.out).mono ?_
  rintro e w1 ⟨b, rfl, b0, b1, C, G⟩
  have HC := Lib.hid C
  have HB := Lib.hid (Below.grown HB.out G HB.out.size (fun k hk => by injection hk with hk; omega))
  have HO := Lib.hid (HO.out.grown G (by omega))
  obtain ⟨m, rfl⟩ : ∃ m : Nat, b = m := ⟨b.toNat, by omega⟩
  have hm4 : m < 4 := by omega
  clear C G b0 b1
  obtain ⟨q1, hq1⟩ : ∃ q1, w.heap.size + 1 = q1 := ⟨_, rfl⟩
  have HQ1 := Lib.hid hq1
  rw [hq1] at HO
  try rw [hq1]
  clear hq1
  go_wp2_with fail
  go_loopw [5, 7] (fun u i wr => ∃ (k : Nat) (pu : Option Addr) (cu : Nat) (L : List ByteArray), k ≤ m ∧ u = .slice pu k cu ∧ i = .int .i64 k ∧ Hid (L.length = k) ∧ Hid (∀ x ∈ L, x.size ≤ 5000) ∧ Hid (OwnT wr q1 (.slice pu k cu) L) ∧ Hid (Cur wr w.heap.size p n c l (2 + 2 * k)) ∧ Hid (Below w.heap.size w wr)) (fun _ i _ => m - (intOf i).toNat)
  case atStart => exact ⟨0, _, _, [], Nat.zero_le _, rfl, rfl, Lib.hid rfl, Lib.hid (fun x h => by cases h), HO, HC, HB⟩
  case round =>
    clear HO HC HB
    obtain ⟨k, pu, cu, L, hk, rfl, rfl, HL, HX, HO, HC, HB⟩ := hrel
    have m0 : (0 : Int) ≤ (k : Int) := by omega
    by_cases hlt : k < m
    · have m1 : (k : Int) < (m : Int) := by omega
      have hN : 2 + 2 * k ≤ 900000 := by omega
      go_wp2_with fail
      refine (any1_ w.heap.size p n c l (2 + 2 * k) _ hN hm HC.out).mono ?_
      rintro e w2 ⟨x, rfl, hx, C, G⟩
      have HC := Lib.hid C
      have HO := Lib.hid (HO.out.grown G (by have := HQ1.out; omega))
      have HB := Lib.hid (Below.grown HB.out G HB.out.size (fun k hk => by injection hk with hk; omega))
      have HX2 : Hid (∀ y ∈ L ++ [x], y.size ≤ 5000) := Lib.hid (fun y hy => by
        rcases List.mem_append.1 hy with h | h
        · exact HX.out y h
        · obtain rfl : y = x := by simpa using h
          omega)
      have hwq : q1 ≤ w2.heap.size := by have := (Cur.lt C); have := HQ1.out; omega
      clear C G hx
      go_wp2_with (at_builtin; refine append_tx rfl (.tmp 19) (.tmp 22) rfl q1 _ L x w2 w2.heap.size rfl rfl rfl HO.out (by have := HL.out; omega) hwq ?_; intro v1 w5 hO1 hG1; have HO1 := Lib.hid hO1; have HC1 := Lib.hid (Cur.past HC.out HO.out hG1 (by have := HQ1.out; omega) (by rw [← HQ1.out]; exact HF.out)); have HB1 := Lib.hid (below_past HB.out HO.out hG1 (by have := HQ1.out; omega)); clear hO1 hG1)
      obtain ⟨p2, c2, rfl, -, -⟩ := HO1.out.form
      have hl2 : (L ++ [x]).length = k + 1 := by rw [List.length_append, HL.out]; rfl
      have HL2 := Lib.hid hl2
      rw [hl2] at HO1 ⊢
      have HC2 : Hid (Cur w5 w.heap.size p n c l (2 + 2 * (k + 1))) := Lib.hid (Cur.more HC1.out (by omega))
      clear hl2
      go_roundw
      case rel => exact ⟨k + 1, p2, c2, L ++ [x], by omega, rfl, by go_num, HL2, HX2, HO1, HC2, HB1⟩
      case measure => simp [intOf]; omega
    · obtain rfl : k = m := by omega
      have hN : 2 + 2 * k ≤ 900 := by omega
      go_wp2_with fail
      refine (one_ 20 w.heap.size p n c l (2 + 2 * k) _ (by omega) hm (by omega) (by omega) HC.out).mono ?_
      rintro e w2 ⟨b, rfl, C, G⟩
      have HC := Lib.hid C
      have HO := Lib.hid (HO.out.grown G (by have := HQ1.out; omega))
      have HB := Lib.hid (Below.grown HB.out G HB.out.size (fun k hk => by injection hk with hk; omega))
      clear C G
      cases b
      · go_wp2_with fail
        have hlw := Cur.lt HC.out
        refine (of_ mrkL w.heap.size w2.heap.size 5 5 p n c l (2 + 2 * k + 2) _ (by omega) hm (by omega) (by omega) rfl (Rd.newAt rfl rfl) (by omega) (HC.out.alloc _)).mono ?_
        rintro e w3 ⟨y, rfl, hy, C, G⟩
        have HB2 := Lib.hid (Below.grown (HB.out.alloc HB.out.size _) G (by have := HB.out.size; simp; omega) (fun k hk => by injection hk with hk; omega))
        have HO2 := Lib.hid ((HO.out.alloc _).grown G (by have := HQ1.out; omega))
        have HY := Lib.hid (mrk_size y hy)
        clear C G hy
        go_wp2_with fail
        go_ret2
        exact ⟨_, L, y, rfl, HO2.out.base (by have := HQ1.out; omega), by have := HL.out; omega, HX.out, HY.out, HB2.out⟩
      · go_wp2_with fail
        refine (pick_ 20 w.heap.size p n c l (2 + 2 * k + 2) _ (by omega) hm (by omega) (by omega) HC.out).mono ?_
        rintro e w3 ⟨b, rfl, b0, b1, C, G⟩
        have HC := Lib.hid C
        have HO := Lib.hid (HO.out.grown G (by have := HQ1.out; omega))
        have HB := Lib.hid (Below.grown HB.out G HB.out.size (fun k hk => by injection hk with hk; omega))
        obtain ⟨z, rfl⟩ : ∃ z : Nat, b = z := ⟨b.toNat, by omega⟩
        have hz : z < 20 := by omega
        clear C G b0 b1
        obtain ⟨K, hK⟩ : ∃ K, 3990 + z = K := ⟨_, rfl⟩
        have hK2 : K ≤ 4010 := by omega
        have hadd : IntKind.i64.wrap (3990 + (z : Int)) = (K : Int) := by rw [← hK]; exact IntWalk.i64_in _ (by omega)
        have hadd2 : (3990 + (z : Int)) = (K : Int) := by omega
        clear hK hz
        have hmk := made_by K (by omega)
        have hcv := fun w => conv_made K w
        obtain ⟨S, hS⟩ : ∃ S, strOfNums (List.replicate K 0) = S := ⟨_, rfl⟩
        have HSz : Hid (S.size ≤ 5000) := Lib.hid (by rw [← hS, str_size, List.length_replicate]; omega)
        rw [hS] at hcv
        clear hS
        obtain ⟨bo, hbo⟩ : ∃ bo : Obj, Obj.cells (madeCells #[Value.int .u8 0] K) 5 = bo := ⟨_, rfl⟩
        have hwq : q1 ≤ w3.heap.size := by have := (Cur.lt HC.out); have := HQ1.out; omega
        rw [hbo] at hcv hmk
        clear hbo
        have HO1 := Lib.hid (HO.out.alloc bo)
        have HC1 := Lib.hid (HC.out.alloc bo)
        have HB1 : Hid (Below w.heap.size w (w3.alloc bo)) := Lib.hid (HB.out.alloc HB.out.size _)
        have hwq2 : q1 ≤ (w3.alloc bo).heap.size := by simp; omega
        have HX2 : Hid (∀ y ∈ L ++ [S], y.size ≤ 5000) := Lib.hid (fun y hy => by
          rcases List.mem_append.1 hy with h | h
          · exact HX.out y h
          · obtain rfl : y = S := by simpa using h
            exact HSz.out)
        go_wp2_with (at_builtin; refine append_tx rfl (.tmp 26) (.tmp 32) rfl q1 _ L S (w3.alloc bo) (w3.heap.size + 1) (World.size_alloc _ _) rfl rfl HO1.out (by have := HL.out; omega) hwq2 ?_; intro v1 w5 hO1 hG1; have HO2 := Lib.hid hO1; have HC2 := Lib.hid (Cur.past HC1.out HO1.out hG1 (by have := HQ1.out; omega) (by rw [← HQ1.out]; exact HF.out)); have HB2 := Lib.hid (below_past HB1.out HO1.out hG1 (by have := HQ1.out; omega)); clear hO1 hG1)
        have hlw := Cur.lt HC2.out
        refine (of_ mrkL w.heap.size w5.heap.size 5 5 p n c l (2 + 2 * k + 2 + 2) _ (by omega) hm (by omega) (by omega) rfl (Rd.newAt rfl rfl) (by omega) (HC2.out.alloc _)).mono ?_
        rintro e w6 ⟨y, rfl, hy, C, G⟩
        have HB3 := Lib.hid (Below.grown (HB2.out.alloc HB2.out.size _) G (by have := HB2.out.size; simp; omega) (fun k hk => by injection hk with hk; omega))
        have HO3 := Lib.hid ((HO2.out.alloc _).grown G (by have := HQ1.out; omega))
        have HY := Lib.hid (mrk_size y hy)
        clear C G hy
        go_wp2_with fail
        go_ret2
        exact ⟨_, L ++ [S], y, rfl, HO3.out.base (by have := HQ1.out; omega), by rw [List.length_append]; have := HL.out; simp; omega, HX2.out, HY.out, HB3.out⟩
end Go.Proofs.Ytcjmlddpjbneiaa.draw
