/- Merged texts: U1, U2, U3, U4. -/
import Derived.Test.YtjmlefcmhjodeaaX5
import Derived.Test.YtjmlefcmhjodeaaIs
import Derived.Test.YtjmlefcmhjodeaaAt
import Derived.Test.YtjmlefcmhjodeaaXp
import Derived.WalkMore
import Derived.Test.YtjmlefcmhjodeaaGGhostsIn0
import Derived.Deep.DeepCutAuto
/- Lists of lists of numbers that a call makes. -/
namespace Go.Proofs.Ytjmlefcmhjodeaa.others
open Go.RowKit
open cards
set_option linter.unusedVariables false

theorem ints_oneU : ∀ (l : List Int), ∀ u ∈ ints l, u.oneCell' = true := fun l u h => by
  obtain ⟨x, _, rfl⟩ := List.mem_map.1 h
  rfl
set_option maxRecDepth 100000 in
/-- All numbers of another slice are appended. -/
theorem append_intsU {ops : Array Oper} {rest : List Oper} {o : Oper} {a : Act} {Q : Exit → Act → World → Prop} (hgd : o.guard = none) (s x : Operand)
    (ho : o.op = .call { callee := .builtin .append, args := #[s, x], argTypes := #[81, 81] }) (B : Nat) (v : Value) (l l2 : List Int) (g q m c : Nat) (W : World)
    (hs : a.eval s = v) (hx : a.eval x = .slice (some ⟨g, q, none⟩) m c) (hO : OwnI W B v l) (hm : l2.length = m) (hR : Rd W (some ⟨g, q, none⟩) (ints l2)) (hl : l.length + m ≤ 1000000000) (hB : B ≤ W.heap.size)
    (h : ∀ v' w', OwnI w' B v' (l ++ l2) → Below B W w' → wpList Try.prog ops Q rest (a.put o.dst v') w') : wpList Try.prog ops Q (o :: rest) a W := by
  obtain ⟨i, hi, hz, hsz, hb⟩ := info_parts int_info
  refine wpList_append_own (P := Try.prog) W hgd s x 81 ho B 3 i (.int .i64 0) 1 8 Try.underlying81 hi hz hsz hb rfl (by decide) v l.length (ints l) hs hO ⟨g, q, none⟩ m c (ints l2) hx (by rw [ints_len, hm]; omega) ?_ (ints_oneU l2) (by simp only [maxLen]; omega) (by omega) hB ?_
  · intro j u hu
    obtain ⟨b, o, e, _, hc⟩ := hR (Nat.lt_of_le_of_lt (Nat.zero_le _) (List.getElem?_eq_some_iff.1 hu).1)
    injection e with e
    injection e with e1 e2
    subst e1; subst e2
    have hadd : (⟨g, q, none⟩ : Addr).add j = ⟨g, q + j, none⟩ := by unfold Addr.add; split <;> simp_all
    rw [hadd]; exact hc j u hu
  · intro v' w' h1 h2 h3
    refine h v' w' ?_ ((Below.refl _ _).grown h2 hB (fun k hk => (World.ownsRow.lt hO k hk).1))
    unfold OwnI
    rw [List.length_append, hm]
    have e : ints (l ++ l2) = ints l ++ ints l2 := by simp [ints]
    rw [e]; exact h1
set_option maxRecDepth 100000 in
set_option maxHeartbeats 2000000 in
theorem l1_own (l : List Int) (b q n cp : Nat) (w : World) (hn : l.length = n) (hl : n ≤ 1000000) (hr : Rd w (some ⟨b, q, none⟩) (ints l)) :
    Calls Try.prog 110 #[.slice (some ⟨b, q, none⟩) n cp] w fun e w' => ∃ u, e = .returned u ∧ OwnI w' w.heap.size u l ∧ Below w.heap.size w w' := by
  have HN := Lib.hid hn
  have HR := Lib.hid hr
  have HO := Lib.hid (OwnI.empty w w.heap.size (Nat.le_refl _))
  have HB0 : Hid (Below w.heap.size w (w.alloc (.cells #[] 3))) := Lib.hid ((Below.refl _ _).alloc (Nat.le_refl _) _)
  clear hn hr
  go_enter Try.func110, Try.ntmps110
  go_wp2_with (at_builtin; refine append_intsU rfl (.tmp 3) (.tmp 4) rfl w.heap.size (.slice (some ⟨w.heap.size, 0, none⟩) 0 0) [] l b q n cp _ rfl rfl HO.out HN.out (HR.out.alloc _) (by simp; omega) HB0.out.size ?_; intro v1 w1 hO1 hB1)
  go_ret
  exact ⟨_, rfl, hO1, HB0.out.trans hB1⟩

def ic (c : List Nat) : List Int := c.map fun x : Nat => (x : Int)
theorem ownI_base {w : World} {B B' : Nat} {v : Value} {l : List Int} (h : OwnI w B v l) (hB : B' ≤ B) : OwnI w B' v l := by
  obtain ⟨h1, h2 | ⟨g, cap, cur, e, hb, r⟩⟩ := h
  · exact ⟨h1, .inl h2⟩
  · exact ⟨h1, .inr ⟨g, cap, cur, e, Nat.le_trans hB hb, r⟩⟩
/-- A row of lists of numbers, each in a row of its own. -/
def LL (w : World) (B : Nat) (u : Value) (L : List (List Nat)) : Prop := ∃ vs : List Value, w.ownsRow B 81 1 u L.length vs ∧ u ≠ .slice none 0 0 ∧ vs.length = L.length ∧ (∀ v ∈ vs, v.oneCell' = true) ∧ ∀ (i : Nat) (v : Value) (c : List Nat), vs[i]? = some v → L[i]? = some c → OwnI w B v (ic c) ∧ Ap u v
theorem ll_info : ((Try.prog).info? 81).map (fun i => (i.zero, i.size, i.bytes)) = some (some (.slice none 0 0), 1, 24) := by kernel_rfl
theorem LL.below {w w1 : World} {B : Nat} {u : Value} {L : List (List Nat)} (h : LL w B u L) (b : Below w.heap.size w w1) : LL w1 B u L := by
  obtain ⟨vs, h1, h2, h3, h4, h5⟩ := h
  exact ⟨vs, World.ownsRow.kept (row := none) h1 ⟨b.os, b.tape, b.output, b.size, fun j hj _ => b.block j hj⟩ (by cases hq : u.ownBlock with
    | none => exact .inl rfl
    | some q => exact .inr (by simp)), h2, h3, h4, fun i v c a d => ⟨(h5 i v c a d).1.below b, (h5 i v c a d).2⟩⟩
theorem LL.alloc {w : World} {B : Nat} {u : Value} {L : List (List Nat)} (h : LL w B u L) (o : Obj) : LL (w.alloc o) B u L := h.below ((Below.refl _ _).alloc (Nat.le_refl _) o)
theorem LL.drew {w : World} {B : Nat} {u : Value} {L : List (List Nat)} (h : LL w B u L) : LL w.drew B u L := h.below (Below.drew (Below.refl _ _))
theorem LL.drewN {w : World} {B : Nat} {u : Value} {L : List (List Nat)} (h : LL w B u L) (n : Nat) : LL (w.drewN n) B u L := h.below (bdN (Below.refl _ _) n)
theorem LL.base {w : World} {B B' : Nat} {u : Value} {L : List (List Nat)} (h : LL w B u L) (hB : B' ≤ B) : LL w B' u L := by
  obtain ⟨vs, ⟨h1, h2⟩, h3, h4, h5, h6⟩ := h
  refine ⟨vs, ⟨h1, ?_⟩, h3, h4, h5, fun i v c a d => ⟨ownI_base (h6 i v c a d).1 hB, (h6 i v c a d).2⟩⟩
  rcases h2 with h2 | ⟨g, cap, cur, e, hb, r⟩
  · exact .inl h2
  · exact .inr ⟨g, cap, cur, e, Nat.le_trans hB hb, r⟩
theorem LL.empty (w : World) (B : Nat) (hB : B ≤ w.heap.size) : LL (w.alloc (.cells #[] 81)) B (.slice (some ⟨w.heap.size, 0, none⟩) 0 0) [] :=
  ⟨[], World.ownsRow_made (e := 81) (size := 1) w #[] 0 hB (by unfold maxLen; omega) rfl, by simp, rfl, by simp, fun i v c h => by simp at h⟩
theorem LL.span {w : World} {B : Nat} {u : Value} {L : List (List Nat)} (h : LL w B u L) : ∀ g, u.ownBlock = some g → B ≤ g ∧ g < w.heap.size := by
  obtain ⟨vs, h1, _⟩ := h
  exact World.ownsRow.lt h1
theorem LL.form {w : World} {B : Nat} {u : Value} {L : List (List Nat)} (h : LL w B u L) : ∃ g c, u = .slice (some ⟨g, 0, none⟩) L.length c ∧ L.length ≤ c := by
  obtain ⟨vs, ⟨_, ⟨e, _⟩ | ⟨g, cap, cur, e, _, _, hc, _⟩⟩, h2, _⟩ := h
  · exact absurd e h2
  · exact ⟨g, cap, e, hc⟩
/-- A row with one list. -/
theorem LL.one {w : World} {B : Nat} {v : Value} {c : List Nat} (hB : B ≤ w.heap.size) (h : OwnI w B v (ic c)) (h1 : v.oneCell' = true) : LL (w.alloc (.cells #[v] 81)) B (.slice (some ⟨w.heap.size, 0, none⟩) 1 1) [c] :=
  ⟨[v], ⟨rfl, .inr ⟨w.heap.size, 1, _, rfl, hB, heap_alloc_new w _, Nat.le_refl _, by simp [maxLen], rfl, rfl⟩⟩, by simp, rfl, fun u hu => by
    rw [List.mem_singleton] at hu
    rw [hu]; exact h1, fun i u d a b => by
    have hi : i = 0 := by have := (List.getElem?_eq_some_iff.1 b).1; simp at this; omega
    subst hi
    simp at a b
    subst a; subst b
    refine ⟨h.alloc _, fun g e1 e2 => ?_⟩
    have e1 : w.heap.size = g := by simpa [Value.ownBlock] using e1
    have := (h.span g e2).2
    omega⟩
set_option maxRecDepth 100000 in
/-- All lists of another row are appended. -/
theorem append_ll {ops : Array Oper} {rest : List Oper} {o : Oper} {a : Act} {Q : Exit → Act → World → Prop} (hgd : o.guard = none) (s x : Operand)
    (ho : o.op = .call { callee := .builtin .append, args := #[s, x], argTypes := #[85, 85] }) (B B2 : Nat) (v u : Value) (L L2 : List (List Nat)) (W : World)
    (hs : a.eval s = v) (hx : a.eval x = u) (hO : LL W B v L) (h2 : LL W B2 u L2) (hv : ∀ g, v.ownBlock = some g → g < B2) (hBB : B ≤ B2) (hl : L.length + L2.length ≤ 1000000000) (hB : B ≤ W.heap.size)
    (h : ∀ v' w', LL w' B v' (L ++ L2) → Below B W w' → wpList Try.prog ops Q rest (a.put o.dst v') w') : wpList Try.prog ops Q (o :: rest) a W := by
  obtain ⟨i, hi, hz, hsz, hb⟩ := info_parts ll_info
  obtain ⟨g, c, rfl, _⟩ := h2.form
  obtain ⟨vs, o1, o2, o3, o4, o5⟩ := hO
  obtain ⟨us, u1, u2, u3, u4, u5⟩ := h2
  refine wpList_append_own_at (P := Try.prog) W hgd s x 85 ho B 81 i (.slice none 0 0) 1 24 Try.underlying85 hi hz hsz hb rfl (by decide) v L.length vs hs o1 ⟨g, 0, none⟩ L2.length c us hx (by rw [u3]; omega) ?_ u4 (by simp only [maxLen]; omega) (by omega) hB ?_
  · intro j y hy
    have hj : j < L2.length * 1 := by have := (List.getElem?_eq_some_iff.1 hy).1; omega
    have hadd : (⟨g, 0, none⟩ : Addr).add j = ⟨g, j, none⟩ := by unfold Addr.add; split <;> simp_all
    rw [hadd, World.ownsRow.cellAt u1 j (by omega), hy]
  · intro v' w' h1 h3 h4 h6
    refine h v' w' ⟨vs ++ us, by rw [List.length_append]; exact h1, fun e => o2 (h4.1 e).1, by simp [o3, u3], fun y hy => ?_, fun k y d hk hd => ?_⟩ ((Below.refl _ _).grown h3 hB (fun k hk => (World.ownsRow.lt o1 k hk).1))
    · rcases List.mem_append.1 hy with hy | hy
      · exact o4 y hy
      · exact u4 y hy
    · rcases Nat.lt_or_ge k vs.length with hlt | hge
      · rw [List.getElem?_append_left hlt] at hk
        rw [List.getElem?_append_left (by omega)] at hd
        obtain ⟨q1, q2⟩ := o5 k y d hk hd
        exact ⟨q1.past h3 q2, q2.next (fun g hg => (q1.span g hg).2) h6⟩
      · rw [List.getElem?_append_right hge] at hk
        rw [List.getElem?_append_right (by omega), ← o3] at hd
        obtain ⟨q1, q2⟩ := u5 _ y d hk hd
        have hap : Ap v y := fun g e1 e2 => by
          have := hv g e1
          have := (q1.span g e2).1
          omega
        exact ⟨ownI_base (q1.past h3 hap) hBB, hap.next (fun g hg => (q1.span g hg).2) h6⟩
end Go.Proofs.Ytjmlefcmhjodeaa.others

/- All lists of places: the model's recursion. -/
namespace Go.Proofs.Ytjmlefcmhjodeaa.others
open Go.RowKit
open cards
set_option linter.unusedVariables false

theorem ic_snoc (F : List Nat) (i : Nat) : ic (F ++ [i]) = ic F ++ [(i : Int)] := by simp [ic]
theorem ic_len (F : List Nat) : (ic F).length = F.length := by simp [ic]
theorem chS_bd (n : Nat) : ∀ m f : Nat, (chS n m f).length ≤ n ^ m
  | 0, _ => by simp [chS]
  | m + 1, f => by
    unfold chS
    have h : ∀ k : Nat, ((List.range k).flatMap fun i => if f ≤ i then (chS n m (i + 1)).map (i :: ·) else []).length ≤ k * n ^ m := fun k => by
      induction k with
      | zero => simp
      | succ k ih =>
        rw [List.range_succ, List.flatMap_append, List.length_append, Nat.succ_mul]
        have h2 : ([k].flatMap fun i => if f ≤ i then (chS n m (i + 1)).map (i :: ·) else []).length ≤ n ^ m := by
          rw [List.flatMap_singleton]
          split
          · rw [List.length_map]; exact chS_bd n m _
          · simp
        omega
    exact Nat.le_trans (h n) (by rw [Nat.pow_succ, Nat.mul_comm]; exact Nat.le_refl _)
theorem chU_bd (n m f : Nat) (k : Nat) : (chU n m f k).length ≤ k * n ^ m := by
  unfold chU
  induction k with
  | zero => simp
  | succ k ih =>
    rw [List.range_succ, List.flatMap_append, List.length_append, Nat.succ_mul]
    have h2 : ([k].flatMap fun i => if f ≤ i then (chS n m (i + 1)).map (i :: ·) else []).length ≤ n ^ m := by
      rw [List.flatMap_singleton]
      split
      · rw [List.length_map]; exact chS_bd n m _
      · simp
    omega
theorem pow_bd {n m : Nat} (hn : n ≤ 10) (hm : m ≤ 6) : n ^ m ≤ 1000000 :=
  Nat.le_trans (Nat.pow_le_pow_left hn m) (Nat.pow_le_pow_right (by omega) hm)

set_option maxRecDepth 100000 in
set_option maxHeartbeats 8000000 in
theorem l10_choose : ∀ (m : Nat) (F : List Nat) (n f b q k c : Nat) (w : World), n ≤ 10 → f ≤ n → m + F.length ≤ 6 → F.length = k → Rd w (some ⟨b, q, none⟩) (ints (ic F)) →
    Calls Try.prog 80 #[.int .i64 n, .int .i64 f, .int .i64 m, .slice (some ⟨b, q, none⟩) k c] w fun e w' => ∃ u, e = .returned u ∧ LL w' w.heap.size u ((chS n m f).map (F ++ ·)) ∧ Below w.heap.size w w'
  | 0, F, n, f, b, q, k, c, w, hn, hf, hm, hk, hr => by
    have HL := Lib.hid (l1_own (ic F) b q k c w (by rw [ic_len, hk]) (by omega) hr)
    have HE : Hid ((chS n 0 f).map (F ++ ·) = [F]) := Lib.hid (by simp [chS])
    have hd : ((0 : Nat) : Int) = 0 := rfl
    rw [HE.out, hd]
    clear hr hd
    go_enter Try.func80, Try.ntmps80
    go_wp2_with fail
    refine HL.out.mono ?_
    rintro e w1 ⟨u, rfl, hu, b1⟩
    have HU := Lib.hid hu
    have HB := Lib.hid b1
    obtain ⟨p, c1, rfl, _, _, _⟩ := hu.form
    clear hu b1
    go_wp2_with fail
    go_ret
    exact ⟨_, rfl, LL.one HB.out.size HU.out rfl, HB.out.alloc HB.out.size _⟩
  | m + 1, F, n, f, b, q, k, c, w, hn, hf, hm, hk, hr => by
    have HR0 := Lib.hid hr
    have HKk := Lib.hid hk
    have hk6 : k + m ≤ 5 := by omega
    have HL := Lib.hid (fun w h => l1_own (ic F) b q k c w (by rw [ic_len, hk]) (by omega) h)
    have HIH := Lib.hid (fun (i b q c : Nat) (w : World) (hi : i < n) (hr : Rd w (some ⟨b, q, none⟩) (ints (ic (F ++ [i])))) => l10_choose m (F ++ [i]) n (i + 1) b q (k + 1) c w hn hi (by rw [List.length_append]; simp; omega) (by rw [List.length_append, hk]; rfl) hr)
    have HSt := Lib.hid (fun (i : Nat) (hi : f ≤ i) => show (chU n m f (i + 1)).map (F ++ ·) = (chU n m f i).map (F ++ ·) ++ (chS n m (i + 1)).map ((F ++ [i]) ++ ·) by
      rw [chU_step hi, List.map_append, List.map_map]
      congr 1
      apply List.map_congr_left
      intro d _
      simp)
    have HBd := Lib.hid (fun (i : Nat) (hi : i ≤ n) => show ((chU n m f i).map (F ++ ·)).length ≤ 100000000 by
      rw [List.length_map]
      have h1 := chU_bd n m f i
      have h2 := pow_bd (n := n) (m := m) hn (by omega)
      have h3 : i * n ^ m ≤ 10 * 1000000 := Nat.mul_le_mul (by omega) h2
      omega)
    have HBs := Lib.hid (fun (i : Nat) => show ((chS n m (i + 1)).map ((F ++ [i]) ++ ·)).length ≤ 100000000 by
      rw [List.length_map]
      have h1 := chS_bd n m (i + 1)
      have h2 := pow_bd (n := n) (m := m) hn (by omega)
      omega)
    have HEn : Hid ((chS n (m + 1) f).map (F ++ ·) = (chU n m f n).map (F ++ ·)) := Lib.hid rfl
    have HU0 : Hid ((chU n m f f).map (F ++ ·) = []) := Lib.hid (by rw [chU_low (Nat.le_refl _)]; rfl)
    obtain ⟨M, hM⟩ : ∃ M : Int, ((m + 1 : Nat) : Int) = M := ⟨_, rfl⟩
    have hM1 : M - 1 = (m : Int) := by omega
    have hd : (M == 0) = false := beq_eq_false_iff_ne.2 (by omega)
    have hMb : 0 ≤ M ∧ M ≤ 6 := by omega
    rw [hM, HEn.out]
    have HO0 := Lib.hid (LL.empty w w.heap.size (Nat.le_refl _))
    have HIF := Lib.hid (ic_snoc F)
    clear hr hk hm hM
    go_enter Try.func80, Try.ntmps80
    go_wp2_with fail
    go_loopw [9, 10] (fun o i wr => ∃ j : Nat, f ≤ j ∧ j ≤ n ∧ i = .int .i64 j ∧ Hid (LL wr w.heap.size o ((chU n m f j).map (F ++ ·))) ∧ Hid (Below w.heap.size w wr)) (fun _ i _ => n - (intOf i).toNat)
    case atStart => exact ⟨f, Nat.le_refl _, hf, rfl, by rw [HU0.out]; exact HO0, Lib.hid (by repeat (first | with_reducible exact Below.refl _ _ | with_reducible exact HB.out | with_reducible apply Below.drew | with_reducible apply bdN | with_reducible refine Below.alloc ?_ (by first | exact Nat.le_refl _ | with_reducible exact HB.out.size | omega | (simp; done) | (simp; omega) | (have := HB.out.size; simp at *; omega)) _ | with_reducible refine Below.setCell ?_ (by first | exact Nat.le_refl _ | with_reducible exact HB.out.size | omega | (simp; done) | (simp; omega) | (have := HB.out.size; simp at *; omega)) _))⟩
    case round =>
      obtain ⟨j, hfj, hj, rfl, HO, HB⟩ := hrel
      have j0 : (0 : Int) ≤ (j : Int) := by omega
      by_cases hlt : j < n
      · have j1 : (j : Int) < (n : Int) := by omega
        have HSj := Lib.hid (HSt.out j hfj)
        have HBj := Lib.hid (HBd.out j hj)
        have HBt := Lib.hid (HBs.out j)
        have HFj := Lib.hid (HIF.out j)
        have HIj : Hid (∀ (b q c : Nat) (w : World), Rd w (some ⟨b, q, none⟩) (ints (ic (F ++ [j]))) → Calls Try.prog 80 #[.int .i64 n, .int .i64 ((j : Int) + 1), .int .i64 m, .slice (some ⟨b, q, none⟩) (k + 1) c] w fun e w' => ∃ u, e = .returned u ∧ LL w' w.heap.size u ((chS n m (j + 1)).map ((F ++ [j]) ++ ·)) ∧ Below w.heap.size w w') := Lib.hid (fun b q c w h => HIH.out j b q c w hlt h)
        generalize (chU n m f j).map (F ++ ·) = acc at *
        generalize (chS n m (j + 1)).map ((F ++ [j]) ++ ·) = add at *
        obtain ⟨go, co, rfl, _⟩ := HO.out.form
        obtain ⟨na, hna⟩ : ∃ na, acc.length = na := ⟨_, rfl⟩
        have HNa := Lib.hid hna
        rw [hna] at HO ⊢
        clear hna
        have HGo := Lib.hid (show go < wr.heap.size from (HO.out.span go rfl).2)
        go_wp2_with fail
        refine (HL.out wr (HR0.out.below HB.out)).mono ?_
        rintro e w1 ⟨u, rfl, hu, b1⟩
        have HU1 := Lib.hid hu
        have HB1 := Lib.hid b1
        obtain ⟨p1, c1, rfl, _, _, _⟩ := hu.form
        rw [ic_len, HKk.out] at HU1 ⊢
        clear hu b1
        have HLk := Lib.hid (show (ic F).length ≤ 1000000000 by rw [ic_len, HKk.out]; omega)
        go_wp2_with (at_builtin; refine append_int rfl (.tmp 30) (.tmp 32) rfl wr.heap.size (.slice p1 k c1) (ic F) (j : Int) _ _ rfl rfl rfl HU1.out HLk.out HB1.out.size ?_; intro v2 w2 hO2 hB2)
        rw [← HFj.out] at hO2
        obtain ⟨p2, c2, rfl, _, hr2, hx2⟩ := hO2.form
        have hl2 : (ic (F ++ [j])).length = k + 1 := by rw [ic_len, List.length_append, HKk.out]; rfl
        obtain ⟨g2, rfl, _⟩ := hx2 (by omega)
        have HR2 := Lib.hid hr2
        have HB2 := Lib.hid (HB1.out.trans hB2)
        rw [hl2]
        clear hO2 hr2 hx2 hl2 hB2
        refine (HIj.out g2 0 c2 w2 HR2.out).mono ?_
        rintro e w3 ⟨u, rfl, hu, b3⟩
        have HU3 := Lib.hid hu
        have HB3 := Lib.hid (HB2.out.trans (b3.mono HB2.out.size))
        have HO3 := Lib.hid (HO.out.below HB3.out)
        have HBz := Lib.hid (HB.out.trans (HB3.out.mono HB.out.size))
        have HS2 := Lib.hid HB2.out.size
        obtain ⟨g3, c3, rfl, _⟩ := hu.form
        obtain ⟨nb, hnb⟩ : ∃ nb, add.length = nb := ⟨_, rfl⟩
        rw [hnb] at HU3 ⊢
        clear hu b3
        have hap : ∀ g, (Value.slice (some ⟨go, 0, none⟩) na co).ownBlock = some g → g < w2.heap.size := fun g e => by
          have e : go = g := by simpa [Value.ownBlock] using e
          have := HGo.out
          have := HS2.out
          omega
        have HAp := Lib.hid hap
        clear hap hnb
        have HQ1 := Lib.hid (show w.heap.size ≤ w2.heap.size by have := HB.out.size; have := HS2.out; omega)
        have HQ2 := Lib.hid (show acc.length + add.length ≤ 1000000000 by have := HBj.out; have := HBt.out; omega)
        go_wp2_with (at_builtin; refine append_ll rfl (.tmp 23) (.tmp 34) rfl w.heap.size w2.heap.size (.slice (some ⟨go, 0, none⟩) na co) (.slice (some ⟨g3, 0, none⟩) nb c3) acc add w3 rfl rfl HO3.out HU3.out HAp.out HQ1.out HQ2.out HBz.out.size ?_; intro v4 w4 hO4 hB4)
        rw [← HSj.out] at hO4
        go_roundw
        case rel => exact ⟨j + 1, by omega, by omega, by go_num, hO4, HBz.out.trans hB4⟩
        case measure => simp [intOf]; omega
      · obtain rfl : j = n := by omega
        go_wp2_with fail
        go_ret
        exact ⟨_, rfl, HO.out, HB.out⟩
end Go.Proofs.Ytjmlefcmhjodeaa.others

/- GhostsIn: the model's. -/
namespace Go.Proofs.Ytjmlefcmhjodeaa.others
open Go.RowKit
open cards reg
set_option linter.unusedVariables false

theorem ascN_lt {n : Nat} : ∀ {c : List Nat} {f : Nat}, ascN n f c → ∀ {k i : Nat}, c[k]? = some i → i < n
  | [], _, _, k, i, h => by simp at h
  | x :: r, f, ha, k, i, h => by
    obtain ⟨h1, h2, h3⟩ : f ≤ x ∧ x < n ∧ ascN n (x + 1) r := ha
    cases k with
    | zero => simp at h; omega
    | succ k => exact ascN_lt h3 (by simpa using h)
theorem cds_ok {l : List Cd} {c : List Nat} (hk : l.all Cd.ok = true) (hc : ∀ i, i ∈ c → i < l.length) : (cdsAt l c).all Cd.ok = true := by
  unfold cdsAt
  rw [List.all_eq_true] at hk ⊢
  intro x hx
  obtain ⟨i, hi, rfl⟩ := List.mem_map.1 hx
  rw [List.getD_eq_getElem?_getD, List.getElem?_eq_getElem (hc i hi)]
  exact hk _ (List.getElem_mem (hc i hi))
theorem cds_at {l : List Cd} {c : List Nat} {t x : Nat} {y : Cd} (h1 : c[t]? = some x) (h2 : l[x]? = some y) : (cdsAt l c)[t]? = some y := by
  unfold cdsAt
  rw [List.getElem?_map, h1]
  simp [h2]
theorem own_farG {w : World} {B : Nat} {v : Value} {l : List Cd} (h : cards.Own w B v l) {p : Addr} (hp : ∀ g, v.ownBlock = some g → g ≠ p.block) (u : Value) : cards.Own (w.setCell p u) B v l :=
  World.ownsRow.kept (row := some p.block) h ⟨rfl, rfl, rfl, by simp [World.setCell], fun k hk hne => Below.heap_setCell _ _ _ _ (fun e => hne (by rw [e]))⟩ (by
    cases hv : v.ownBlock with
    | none => simp
    | some g => exact .inr (fun e => hp g hv (by injection e)))
/-- Blocks from B on that lay in w lie as they lay. -/
def Kp (B : Nat) (w w1 : World) : Prop := w.heap.size ≤ w1.heap.size ∧ ∀ k, B ≤ k → k < w.heap.size → w1.heap[k]? = w.heap[k]?
theorem Kp.refl (B : Nat) (w : World) : Kp B w w := ⟨Nat.le_refl _, fun _ _ _ => rfl⟩
theorem Kp.below {B : Nat} {w w1 w2 : World} (h : Kp B w w1) (b : Below w1.heap.size w1 w2) : Kp B w w2 := ⟨Nat.le_trans h.1 b.size, fun k h1 h2 => (b.block k (Nat.lt_of_lt_of_le h2 h.1)).trans (h.2 k h1 h2)⟩
theorem Kp.grown {B : Nat} {w w1 w2 : World} {row : Option Nat} (h : Kp B w w1) (g : w1.grownBy w2 row) (hr : ∀ q, row = some q → q < B ∨ w.heap.size ≤ q) : Kp B w w2 := ⟨Nat.le_trans h.1 g.size, fun k h1 h2 => (g.block k (Nat.lt_of_lt_of_le h2 h.1) (fun e => by rcases hr k e.symm with q | q <;> omega)).trans (h.2 k h1 h2)⟩
theorem Kp.cell {B : Nat} {w w1 : World} (h : Kp B w w1) {g j : Nat} (h1 : B ≤ g) (h2 : g < w.heap.size) : w1.cell? ⟨g, j, none⟩ = w.cell? ⟨g, j, none⟩ := World.cell?_of_block (h.2 g h1 h2)
/-- What a row of lists holds, read later. -/
theorem LL.read {w : World} {B : Nat} {g n c : Nat} {L : List (List Nat)} (h : LL w B (.slice (some ⟨g, 0, none⟩) n c) L) {i : Nat} {d : List Nat} (hi : L[i]? = some d) {w1 : World} (k : Kp B w w1) (hd : 0 < d.length) :
    ∃ p cap, w1.cell? ⟨g, i, none⟩ = some (.slice (some ⟨p, 0, none⟩) d.length cap) ∧ d.length ≤ cap ∧ ∀ (j x : Nat), d[j]? = some x → w1.cell? ⟨p, j, none⟩ = some (.int .i64 x) := by
  have hsp := h.span g rfl
  obtain ⟨vs, h1, h2, h3, h4, h5⟩ := h
  have hil := (List.getElem?_eq_some_iff.1 hi).1
  obtain ⟨g2, c2, e2, _⟩ := (show LL w B (.slice (some ⟨g, 0, none⟩) n c) L from ⟨vs, h1, h2, h3, h4, h5⟩).form
  injection e2 with _ en _
  subst en
  have hcell := World.ownsRow.cellAt h1 i (by rw [Nat.mul_one]; exact hil)
  obtain ⟨v, hv⟩ : ∃ v, vs[i]? = some v := ⟨_, List.getElem?_eq_getElem (by omega)⟩
  obtain ⟨q1, _⟩ := h5 i v d hv hi
  obtain ⟨p, cap, rfl, hc, hr, hx⟩ := q1.form
  rw [ic_len] at hc hx hv
  obtain ⟨p, rfl, hb1, hb2, _⟩ := hx hd
  refine ⟨p, cap, by rw [k.cell hsp.1 hsp.2, hcell, hv], hc, fun j x hj => ?_⟩
  rw [k.cell hb1 hb2]
  obtain ⟨b, o, e, _, hcc⟩ := hr (by simp [ints, ic_len]; exact hd)
  injection e with e
  injection e with e1 e2
  subst e1; subst e2
  have := hcc j (.int .i64 x) (by simp [ints, ic, hj])
  rw [Nat.zero_add] at this
  exact this
/-- The array of places, as far as it is written. -/
def pcs (c : List Nat) (t : Nat) : Array Value := ((List.range 6).map fun k => Value.int .i64 (if k < t then (c.getD k 0 : Nat) else 0 : Int)).toArray
theorem pcs_zero (c : List Nat) : pcs c 0 = #[.int .i64 0, .int .i64 0, .int .i64 0, .int .i64 0, .int .i64 0, .int .i64 0] := by
  unfold pcs; rfl
theorem pcs_step {c : List Nat} {t i : Nat} (ht : t < 6) (h : c[t]? = some i) : (pcs c t).set! t (.int .i64 i) = pcs c (t + 1) := by
  have e : c.getD t 0 = i := by rw [List.getD_eq_getElem?_getD, h]; rfl
  rcases (show t = 0 ∨ t = 1 ∨ t = 2 ∨ t = 3 ∨ t = 4 ∨ t = 5 by omega) with rfl | rfl | rfl | rfl | rfl | rfl <;> (subst e; rfl)
theorem pcs_all (c : List Nat) : pcs c 6 = #[.int .i64 (a6 c).a, .int .i64 (a6 c).b, .int .i64 (a6 c).c, .int .i64 (a6 c).d, .int .i64 (a6 c).e, .int .i64 (a6 c).f] := rfl
set_option maxRecDepth 100000 in
/-- One array is appended. -/
theorem append_A6_at {ops : Array Oper} {rest : List Oper} {o : Oper} {a : Act} {Q : Exit → Act → World → Prop} (hgd : o.guard = none) (s x : Operand)
    (ho : o.op = .call { callee := .builtin .append, args := #[s, x], argTypes := #[52, 52] }) (B : Nat) (v : Value) (l : List A6) (q : A6) (W : World) (g : Nat) (hg : W.heap.size = g)
    (hs : a.eval s = v) (hx : a.eval x = .slice (some ⟨g, 0, none⟩) 1 1) (hO : OwnA6 W B v l) (hl : l.length ≤ 1000000000) (hB : B ≤ W.heap.size)
    (h : ∀ v' w', OwnA6 w' B v' (l ++ [q]) → Below B W w' → (W.alloc q.obj).grownBy w' v.ownBlock → (v'.ownBlock = v.ownBlock ∨ v'.ownBlock = some (W.heap.size + 1)) → wpList Try.prog ops Q rest (a.put o.dst v') w') : wpList Try.prog ops Q (o :: rest) a (W.alloc q.obj) := by
  subst hg
  obtain ⟨i, hi, hz, hsz, hb⟩ := info_parts A6.info
  refine wpList_append_own_at (P := Try.prog) (W.alloc q.obj) hgd s x 52 ho B 87 i (.agg #[.int .i64 0, .int .i64 0, .int .i64 0, .int .i64 0, .int .i64 0, .int .i64 0]) 6 48 Try.underlying52 hi hz hsz hb rfl (by decide) v l.length (A6.flat l) hs (hO.alloc _) ⟨W.heap.size, 0, none⟩ 1 1 q.cells hx rfl ?_ ?_ ?_ ?_ ?_ ?_
  · intro j u hu
    have hj : j < 6 := by have := (List.getElem?_eq_some_iff.1 hu).1; simpa [A6.cells] using this
    have hadd : (⟨W.heap.size, 0, none⟩ : Addr).add j = ⟨W.heap.size, j, none⟩ := by
      unfold Addr.add; split <;> simp_all
    rw [hadd, cell_of_row _ _ j _ _ _ (heap_alloc_new W _)]
    rw [← hu]; simp [A6.cells]
  · intro u hu; simp [A6.cells] at hu; rcases hu with rfl | rfl | rfl | rfl | rfl | rfl <;> rfl
  · simp only [maxLen]; omega
  · omega
  · have : (W.alloc q.obj).heap.size = W.heap.size + 1 := by simp
    omega
  · intro v' w' h1 h2 _ h4
    refine h v' w' ?_ (((Below.refl _ _).alloc hB _).grown h2 (by simp; omega) (fun k hk => (World.ownsRow.lt hO k hk).1)) h2 (by rw [World.size_alloc] at h4; exact h4)
    unfold OwnA6
    rw [List.length_append]
    have e : A6.flat (l ++ [q]) = A6.flat l ++ q.cells := by simp [A6.flat]
    rw [e]; exact h1
end Go.Proofs.Ytjmlefcmhjodeaa.others

/- GhostsIn: the model's walk. -/
namespace Go.Proofs.Ytjmlefcmhjodeaa.others
open Go.RowKit
open cards reg
set_option linter.unusedVariables false

theorem ghR_len (l : List Cd) : (ghR l).1.length ≤ 1000000 := by
  unfold ghR
  split
  · rename_i h
    unfold allG
    rw [List.length_map]
    exact Nat.le_trans (List.length_filter_le _ _) (Nat.le_trans (chS_bd _ 6 0) (pow_bd h.2 (Nat.le_refl _)))
  · simp
set_option maxRecDepth 100000 in
set_option maxHeartbeats 8000000 in
theorem spec_gi (l : List Cd) (p : Option Addr) (n cp : Nat) (w : World) (hn : l.length = n) (hl : n ≤ 1000000000) (hr : Rd w p (flat l)) :
    Calls Try.prog 45 #[.slice p n cp] w fun e w' => ∃ u, e = .returned (.tuple #[u, .bool (ghR l).2]) ∧ OwnA6 w' w.heap.size u (ghR l).1 ∧ Below w.heap.size w w' := by
  have HN := Lib.hid hn
  have HR0 := Lib.hid hr
  clear hn hr
  have HO0 := Lib.hid (OwnA6.empty w w.heap.size (Nat.le_refl _))
  have HB : Hid (Below w.heap.size w (w.alloc (.cells #[] 87))) := Lib.hid ((Below.refl _ _).alloc (Nat.le_refl _) _)
  go_enter Try.func45, Try.ntmps45
  go_wp2_with fail
  refine (l2_hand l p n cp _ HN.out hl (HR0.out.below HB.out)).mono ?_
  rintro e w1 ⟨rfl, b⟩
  have HO1 := Lib.hid (HO0.out.below b)
  have HB := Lib.hid (HB.out.trans (b.mono HB.out.size))
  have HS1 := Lib.hid (show w.heap.size < w1.heap.size by have := b.size; simp at this; omega)
  clear b HO0
  cases hh : handB l
  · have HT := Lib.hid (ghR_no (l := l) (.inl hh))
    go_wp2_with fail
    go_ret2
    exact ⟨_, ret_two (by rw [HT.out]), by rw [HT.out]; exact HO1.out, HB.out⟩
  · by_cases h10 : 10 < n
    · have HT := Lib.hid (ghR_no (l := l) (.inr (by rw [HN.out]; exact h10)))
      have m10 : (10 : Int) < (n : Int) := by omega
      go_wp2_with fail
      go_ret2
      exact ⟨_, ret_two (by rw [HT.out]), by rw [HT.out]; exact HO1.out, HB.out⟩
    · have m10 : ¬ (10 : Int) < (n : Int) := by omega
      have HK := Lib.hid (handB_true.1 hh).2.1
      have HT := Lib.hid (show ghR l = (((chS n 6 0).filter (gSel l)).map a6, true) by unfold ghR allG; rw [if_pos ⟨hh, by rw [HN.out]; omega⟩, HN.out])
      have HCm := Lib.hid (fun c (h : c ∈ chS n 6 0) => chS_mem.1 h)
      have HCb := Lib.hid (show (chS n 6 0).length ≤ 1000000 from Nat.le_trans (chS_bd n 6 0) (pow_bd (by omega) (Nat.le_refl _)))
      have HCh := Lib.hid (fun (g : Nat) (w : World) => l10_choose 6 [] n 0 g 0 0 0 w (by omega) (Nat.zero_le _) (by simp) rfl (fun q => by simp [ints, ic] at q))
      have HMap : Hid ((chS n 6 0).map (([] : List Nat) ++ ·) = chS n 6 0) := Lib.hid (by simp)
      rw [HMap.out] at HCh
      clear hh
      generalize chS n 6 0 = AL at *
      have b : Below w1.heap.size w1 (w1.alloc (.cells #[] 3)) := (Below.refl _ _).alloc (Nat.le_refl _) _
      have HO2 := Lib.hid (HO1.out.below b)
      have HB2 := Lib.hid (HB.out.trans (b.mono HB.out.size))
      have HS2 := Lib.hid (show w.heap.size < (w1.alloc (.cells #[] 3)).heap.size by have := HS1.out; simp; omega)
      clear b
      go_wp2_with fail
      refine (HCh.out _ _).mono ?_
      generalize w1.alloc (.cells #[] 3) = W1 at *
      rintro e w2 ⟨u, rfl, hu, b⟩
      have HO3 := Lib.hid (HO2.out.below b)
      have HB := Lib.hid (HB2.out.trans (b.mono HB2.out.size))
      obtain ⟨gu, cu, rfl, _⟩ := hu.form
      have HLL := Lib.hid hu
      obtain ⟨B2, hB2⟩ : ∃ B2, W1.heap.size = B2 := ⟨_, rfl⟩
      rw [hB2] at HLL HS2
      have HGu := Lib.hid (HLL.out.span gu rfl)
      obtain ⟨na, hna⟩ : ∃ na, AL.length = na := ⟨_, rfl⟩
      have HNa := Lib.hid hna
      rw [hna] at HLL HCb ⊢
      have hnb : na ≤ 1000000 := HCb.out
      have HKp0 := Lib.hid (Kp.refl B2 w2)
      have HA0 : Hid (∀ q, (Value.slice (some ⟨w.heap.size, 0, none⟩) 0 0).ownBlock = some q → q < B2 ∨ w2.heap.size ≤ q) := Lib.hid (fun q e => .inl (by
        have e : w.heap.size = q := by simpa [Value.ownBlock] using e
        have := HS2.out
        omega))
      have HWz := Lib.hid (show w.heap.size ≤ w2.heap.size from HB.out.size)
      clear hu b hB2 hna HO1 HO2 HB2 HS1
      go_wp2_with fail
      go_loopw [4, 6, 7, 8, 9] (fun o i _ _ _ wr => ∃ j : Nat, j ≤ na ∧ i = .int .i64 j ∧ Hid (OwnA6 wr w.heap.size o (((AL.take j).filter (gSel l)).map a6)) ∧ Hid (Kp B2 w2 wr) ∧ Hid (∀ q, o.ownBlock = some q → q < B2 ∨ w2.heap.size ≤ q) ∧ Hid (Below w.heap.size w wr)) (fun _ i _ _ _ _ => na - (intOf i).toNat)
      case atStart => exact ⟨0, Nat.zero_le _, rfl, HO3, HKp0, HA0, HB⟩
      case round =>
        clear HO3 HKp0 HA0 HB
        obtain ⟨j, hj, rfl, HO, HKp, HA, HB⟩ := hrel
        have j0 : (0 : Int) ≤ (j : Int) := by omega
        by_cases hlt : j < na
        · have j1 : (j : Int) < (na : Int) := by omega
          obtain ⟨c, hc⟩ : ∃ c, AL[j]? = some c := ⟨_, List.getElem?_eq_getElem (by rw [HNa.out]; exact hlt)⟩
          have HC := Lib.hid hc
          obtain ⟨hc6, hca⟩ := HCm.out c (List.mem_of_getElem? hc)
          have HC6 := Lib.hid hc6
          have HCa := Lib.hid (fun k i h => ascN_lt hca (k := k) (i := i) h)
          have HCo : Hid ((cdsAt l c).all Cd.ok = true) := Lib.hid (cds_ok HK.out (fun i hi => by
            obtain ⟨k, hk, e⟩ := List.getElem_of_mem hi
            have := HCa.out k i (by rw [List.getElem?_eq_getElem hk, e])
            have := HN.out
            omega))
          have HCl : Hid ((cdsAt l c).length = 6) := Lib.hid (by unfold cdsAt; rw [List.length_map]; exact hc6)
          have HSt : Hid (((AL.take (j + 1)).filter (gSel l)).map a6 = ((AL.take j).filter (gSel l)).map a6 ++ (if gSel l c = true then [a6 c] else [])) := Lib.hid (by
            rw [filt_step hc, List.map_append]
            cases gSel l c <;> simp)
          have HLs : Hid ((((AL.take j).filter (gSel l)).map a6).length ≤ 1000000) := Lib.hid (by
            rw [List.length_map]
            exact Nat.le_trans (List.length_filter_le _ _) (by rw [List.length_take]; omega))
          clear hc hc6 hca
          generalize ((AL.take j).filter (gSel l)).map a6 = S at *
          go_upto_region 9 with fail
          have K8 : Hid (VB ((wr.alloc (.cells #[] 25)).alloc (.cells #[.int .i64 0, .int .i64 0, .int .i64 0, .int .i64 0, .int .i64 0, .int .i64 0] 87)) (wr.heap.size + 1) 87 (pcs c 0)) := Lib.hid (VB.newAt (by simp) (by rw [pcs_zero]))
          have HSx := Lib.hid ((cards.Own.empty wr wr.heap.size (Nat.le_refl _)).alloc (.cells #[.int .i64 0, .int .i64 0, .int .i64 0, .int .i64 0, .int .i64 0, .int .i64 0] 87))
          have HBs : Hid (Below wr.heap.size wr ((wr.alloc (.cells #[] 25)).alloc (.cells #[.int .i64 0, .int .i64 0, .int .i64 0, .int .i64 0, .int .i64 0, .int .i64 0] 87))) := Lib.hid (((Below.refl _ _).alloc (Nat.le_refl _) _).alloc (by simp) _)
          have HAx : Hid (∀ q, (Value.slice (some ⟨wr.heap.size, 0, none⟩) 0 0).ownBlock = some q → q ≠ wr.heap.size + 1) := Lib.hid (fun q e => by
            have e : wr.heap.size = q := by simpa [Value.ownBlock] using e
            omega)
          generalize (wr.alloc (.cells #[] 25)).alloc (.cells #[.int .i64 0, .int .i64 0, .int .i64 0, .int .i64 0, .int .i64 0, .int .i64 0] 87) = W3 at *
          obtain ⟨Bs, hBs⟩ : ∃ Bs, wr.heap.size = Bs := ⟨_, rfl⟩
          obtain ⟨g8, hg8⟩ : ∃ g8, Bs + 1 = g8 := ⟨_, rfl⟩
          have HBe := Lib.hid hBs
          have HG8 := Lib.hid (show Bs ≤ g8 by omega)
          rw [hBs] at K8 HSx HBs HAx
          try rw [hBs]
          rw [hg8] at K8 HAx
          try rw [hg8]
          clear hBs hg8
          have HC0 : Hid ((cdsAt l c).take 0 = []) := Lib.hid rfl
          go_wp2_with fail
          go_loopw [7, 9] (fun s k w' => ∃ t : Nat, t ≤ 6 ∧ k = .int .i64 t ∧ Hid (cards.Own w' Bs s ((cdsAt l c).take t)) ∧ Hid (VB w' g8 87 (pcs c t)) ∧ Hid (∀ q, s.ownBlock = some q → q ≠ g8) ∧ Hid (Below Bs wr w')) (fun _ k _ => 6 - (intOf k).toNat)
          case atStart => exact ⟨0, Nat.zero_le _, rfl, HSx, K8, HAx, HBs⟩
          case round =>
            clear HSx K8 HAx HBs
            obtain ⟨t, ht, rfl, HSx, K8, HAx, HBs⟩ := hrel
            have t0 : (0 : Int) ≤ (t : Int) := by omega
            have HKw := Lib.hid (show Kp B2 w2 _ from HKp.out.below (by rw [HBe.out]; exact HBs.out))
            have HBw := Lib.hid (HB.out.trans (HBs.out.mono (by rw [← HBe.out]; exact HB.out.size)))
            by_cases htt : t < 6
            · have t1 : (t : Int) < 6 := by omega
              obtain ⟨x, hx⟩ : ∃ x, c[t]? = some x := ⟨_, List.getElem?_eq_getElem (by rw [HC6.out]; exact htt)⟩
              have hxn := HCa.out t x hx
              obtain ⟨p1, c1, h1, h2, h3⟩ := HLL.out.read HC.out HKw.out (by rw [HC6.out]; omega)
              have h3 := h3 t x hx
              rw [HC6.out] at h1 h2
              obtain ⟨bx, ox, y, rfl, hbx, hy, d0, d1, d2, d3⟩ := (HR0.out.below HBw.out).card (k := x) (by rw [HN.out]; exact hxn)
              have HTk := Lib.hid (take_snoc (cds_at hx hy))
              have HPc := Lib.hid (pcs_step htt hx)
              have HXc := Lib.hid hx
              have HP0 : Hid ((pcs c t)[t]? = some (.int .i64 0)) := Lib.hid (by
                rcases (show t = 0 ∨ t = 1 ∨ t = 2 ∨ t = 3 ∨ t = 4 ∨ t = 5 by omega) with rfl | rfl | rfl | rfl | rfl | rfl <;> rfl)
              have x0 : (0 : Int) ≤ (x : Int) := by omega
              have x1 : (x : Int) < (n : Int) := by omega
              have HLk : Hid (((cdsAt l c).take t).length ≤ 1000000000) := Lib.hid (by rw [List.length_take, HCl.out]; omega)
              clear hx hy
              have e1 := VB.at_ K8.out HP0.out
              go_upto_region 13 with (at_builtin; refine append_cd_at rfl (.tmp 36) (.tmp 47) rfl Bs _ ((cdsAt l c).take t) y _ _ rfl rfl rfl HSx.out HLk.out (Nat.le_trans (Nat.le_of_eq HBe.out.symm) HBs.out.size) ?_; intro v4 w4 hO4 hB4 hG4 hA4)
              rw [← HTk.out] at hO4
              have HB4 := Lib.hid (HBs.out.trans hB4)
              have K8b := Lib.hid (VB.marked K8.out hG4 (fun e => HAx.out g8 e rfl))
              obtain ⟨p2, c2, k1, k2, k3⟩ := HLL.out.read HC.out (HKp.out.below (by rw [HBe.out]; exact HB4.out)) (by rw [HC6.out]; omega)
              have k3 := k3 t x HXc.out
              rw [HC6.out] at k1 k2
              have hA5 := Lib.hid (fun q (hq : v4.ownBlock = some q) => show q ≠ g8 from by
                rcases hA4 with e | e
                · exact HAx.out q (e.symm.trans hq)
                · rw [e] at hq; injection hq with hq; have := K8.out.lt; omega)
              have HO4 := Lib.hid hO4
              clear hO4 hB4 hG4 hA4 h1 h2 h3 e1 d0 d1 d2 d3 HAx HSx HKw HBw HBs K8
              have e1 := VB.at_ K8b.out HP0.out
              have f1 := K8b.out.frozen
              go_upto_region 11 with fail
              have hK := VB.set_ K8b.out HPc.out
              have hO5 := own_farG HO4.out (p := ⟨g8, t, none⟩) hA5.out (.int .i64 x)
              have hB5 := HB4.out.setCell (p := ⟨g8, t, none⟩) HG8.out (.int .i64 x)
              clear e1 f1 k1 k2 k3
              generalize w4.setCell ⟨g8, t, none⟩ (.int .i64 x) = w5 at *
              go_wp2_with fail
              go_roundw
              case rel => exact ⟨t + 1, by omega, by go_num, hO5, hK, hA5, hB5⟩
              case measure => simp [intOf]; omega
            · obtain rfl : t = 6 := by omega
              have HT6 : Hid ((cdsAt l c).take 6 = cdsAt l c) := Lib.hid (by rw [← HCl.out, List.take_length])
              rw [HT6.out] at HSx
              obtain ⟨p6, c6, rfl, hc6, hr6, hx6⟩ := HSx.out.form
              rw [HCl.out] at hc6 ⊢
              have HTh := Lib.hid (fun (g : Nat) (w : World) (h : Rd w p6 (flat (cdsAt l c))) => l10_thirds 3 (cdsAt l c) [] p6 6 c6 (some ⟨g, 0, none⟩) 0 0 w HCl.out rfl hc6 h HCo.out rfl rfl (fun q => by simp [flat] at q) (fun e => by cases e) rfl)
              have HR6 := Lib.hid hr6
              clear hc6 hr6 hx6
              have HBa := Lib.hid (HBs.out.trans ((Below.refl _ _).alloc (by rw [← HBe.out]; exact HBs.out.size) (.cells #[] 25)))
              have K8a := Lib.hid (K8.out.alloc (.cells #[] 25))
              have HRa := Lib.hid (HR6.out.alloc (.cells #[] 25))
              clear HKw HBw HBs K8 HR6 HSx HAx
              go_wp2_with fail
              refine (HTh.out _ _ HRa.out).mono ?_
              generalize World.alloc _ (.cells #[] 25) = W5 at *
              rintro e w6 ⟨rfl, b6⟩
              have hgs : thB 3 (cdsAt l c) [] = gSel l c := rfl
              rw [hgs]
              have HB6 := Lib.hid (HBa.out.trans (b6.mono (by rw [← HBe.out]; exact HBa.out.size)))
              have hBr := HB6.out
              rw [← HBe.out] at hBr
              have HBr := Lib.hid hBr
              clear hBr
              have HO6 := Lib.hid (HO.out.below HBr.out)
              have HK6 := Lib.hid (HKp.out.below HBr.out)
              have HBw := Lib.hid (HB.out.trans (HBr.out.mono HB.out.size))
              have K86 := Lib.hid (K8a.out.below b6)
              clear b6 hgs HO HKp HB HBa HB6 K8a HRa HTh
              cases hq : gSel l c
              · rw [hq] at HSt
                have HS2 := Lib.hid (HSt.out.trans (List.append_nil _))
                clear hq
                go_wp2_with fail
                go_roundw
                case rel => exact ⟨j + 1, by omega, by go_num, by rw [HS2.out]; exact HO6, HK6, HA, HBw⟩
                case measure => simp [intOf]; omega
              · rw [hq, if_pos rfl] at HSt
                have h0 := VB.at_ K86.out (j := 0) rfl
                have h1 := VB.at_ K86.out (j := 1) rfl
                have h2 := VB.at_ K86.out (j := 2) rfl
                have h3 := VB.at_ K86.out (j := 3) rfl
                have h4 := VB.at_ K86.out (j := 4) rfl
                have h5 := VB.at_ K86.out (j := 5) rfl
                obtain ⟨gg, hgg⟩ : ∃ gg, a6 c = gg := ⟨_, rfl⟩
                have c0 : w6.cell? ⟨g8, 0, none⟩ = some (.int .i64 gg.a) := by rw [← hgg]; exact h0
                have c1 : w6.cell? ⟨g8, 1, none⟩ = some (.int .i64 gg.b) := by rw [← hgg]; exact h1
                have c2 : w6.cell? ⟨g8, 2, none⟩ = some (.int .i64 gg.c) := by rw [← hgg]; exact h2
                have c3 : w6.cell? ⟨g8, 3, none⟩ = some (.int .i64 gg.d) := by rw [← hgg]; exact h3
                have c4 : w6.cell? ⟨g8, 4, none⟩ = some (.int .i64 gg.e) := by rw [← hgg]; exact h4
                have c5 : w6.cell? ⟨g8, 5, none⟩ = some (.int .i64 gg.f) := by rw [← hgg]; exact h5
                rw [hgg] at HSt
                clear h0 h1 h2 h3 h4 h5 hgg hq
                have HSz := Lib.hid HBw.out.size
                have HL9 : Hid (S.length ≤ 1000000000) := Lib.hid (Nat.le_trans HLs.out (by omega))
                go_wp2_with (at_builtin; refine append_A6_at rfl (.tmp 61) (.tmp 63) rfl w.heap.size _ S gg w6 w6.heap.size rfl rfl rfl HO6.out HL9.out HSz.out ?_; intro v7 w7 hO7 hB7 hG7 hA7)
                rw [← HSt.out] at hO7
                have hK7 := (HK6.out.below ((Below.refl _ _).alloc (Nat.le_refl _) gg.obj)).grown hG7 HA.out
                have hA8 := fun q (hq : v7.ownBlock = some q) => show q < B2 ∨ w2.heap.size ≤ q from by
                  rcases hA7 with e | e
                  · exact HA.out q (e.symm.trans hq)
                  · rw [e] at hq; injection hq with hq; have := HK6.out.1; omega
                go_roundw
                case rel => exact ⟨j + 1, by omega, by go_num, hO7, hK7, hA8, HBw.out.trans hB7⟩
                case measure => simp [intOf]; omega
        · obtain rfl : j = na := by omega
          have HF : Hid (AL.take j = AL) := Lib.hid (by rw [← HNa.out, List.take_length])
          rw [HF.out] at HO
          go_wp2_with fail
          go_ret2
          exact ⟨_, ret_two (by rw [HT.out]), by rw [HT.out]; exact HO.out, HB.out⟩
end Go.Proofs.Ytjmlefcmhjodeaa.others

