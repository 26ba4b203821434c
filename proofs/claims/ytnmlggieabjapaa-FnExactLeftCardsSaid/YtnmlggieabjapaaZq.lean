/- A list of lines that comes in; the law's copies of such lists. -/
import Derived.Test.YtnmlggieabjapaaFr
import Derived.Test.YtnmlggieabjapaaZt
import Derived.Test.YtnmlggieabjapaaE3
namespace Go.Proofs.Ytnmlggieabjapaa.frame
open Go.ChangeShapes Go.WideShapes Go.ChangeAt Go.RowKit Go.Deep
open cards parting
set_option linter.unusedVariables false

section
variable {H : Type} {enc : TypeId × Value → H} {P : Program} {w : World} {base : Nat} {spare : Nat → Bool} {held : Bool}
theorem list3 {α : Type} (l : List α) (h : (⟨l⟩ : Array α).size = 3) : ∃ a b c, l = [a, b, c] := by
  match l, h with
  | [a, b, c], _ => exact ⟨a, b, c, rfl⟩
/-- A list of lines that comes in: it reads as a list of three numbers each. -/
theorem open_lines {r : Reach} {b0 : Nat} {t a e : TypeId} {v : Value} {d : DataW H} {p : List MemPlace} (ht : P.underlying t = some (.slice a)) (ha : P.underlying a = some (.array 3 e)) (he : P.underlying e = some (.int .i64)) (hce : P.cellsOf e = 1) (hca : P.cellsOf a = 3)
    (hv : Value.okWide P w r b0 t v) (h : DataW.Trod enc P w base spare held t v d p) : ∃ (q : Option Addr) (n c : Nat) (l : List A3), v = .slice q n c ∧ l.length = n ∧ n ≤ maxLen ∧ Rd w q (A3.flat l) ∧ ∀ x ∈ l, wf3 x := by
  obtain ⟨q, n, c, rfl⟩ := okWide_slice ht hv
  obtain ⟨fuel, hf⟩ := h
  rcases open_slice ht hf with ⟨hcs, _⟩ | ⟨ad, len, cap, m, k, D, Pl, hcs, _, hl, hm, hmm, _, hi⟩
  · simp [Value.cells] at hcs
    obtain ⟨rfl, rfl, rfl⟩ := hcs
    exact ⟨none, 0, 0, [], rfl, rfl, by omega, fun hp => by simp [A3.flat] at hp, by simp⟩
  · simp [Value.cells] at hcs
    obtain ⟨rfl, rfl, rfl⟩ := hcs
    have hlm : n ≤ m := by rw [hmm]; split <;> omega
    have key : ∀ i, ∃ x : A3, wf3 x ∧ (i < n → ∀ j u, x.cells[j]? = some u → w.cell? ((ad.add (i * 3)).add j) = some u) := by
      intro i
      by_cases hin : i < n
      · obtain ⟨cs, hc, htr⟩ := hi i (by omega)
        rw [hca] at hc
        obtain ⟨_, hlen, hat⟩ := World.cells?_some hc
        obtain ⟨c0, c1, c2, rfl⟩ := list3 cs (by simpa using hlen)
        obtain ⟨y0, y1, y2, m', hx, hy0, hy1, hy2⟩ := trod_array3 ha hce htr
        obtain ⟨x0, e0, rfl, w0⟩ := DataW.trod_int he hy0
        obtain ⟨x1, e1, rfl, w1⟩ := DataW.trod_int he hy1
        obtain ⟨x2, e2, rfl, w2⟩ := DataW.trod_int he hy2
        simp at e0 e1 e2
        subst e0 e1 e2
        refine ⟨⟨x0, x1, x2⟩, ⟨w0, w1, w2⟩, fun _ j u hu => ?_⟩
        have hj : j < 3 := by have := (List.getElem?_eq_some_iff.1 hu).1; simpa [A3.cells] using this
        rw [hat j hj]; exact hu
      · exact ⟨⟨0, 0, 0⟩, ⟨by decide, by decide, by decide⟩, fun h => absurd h hin⟩
    obtain ⟨f, hF0⟩ := Classical.axiomOfChoice key
    have hF := fun i => (hF0 i).2
    have hW := fun i => (hF0 i).1
    refine ⟨some ad, n, c, (List.range n).map f, rfl, by simp, by omega, fun hp => ?_, fun x hx => by
      obtain ⟨i, _, rfl⟩ := List.mem_map.1 hx
      exact hW i⟩
    rw [A3.flat_len] at hp
    have h0 : 0 < n := by simpa using hp
    obtain ⟨b, o, sp⟩ := ad
    have hspot : sp = none := by
      have := hF 0 h0 0 _ rfl
      simpa [Addr.add] using World.cell?_spot this
    subst hspot
    have hc : ∀ j u, (A3.flat ((List.range n).map f))[j]? = some u → w.cell? ⟨b, o + j, none⟩ = some u := by
      intro j u hu
      have hj : j < n * 3 := by
        have := (List.getElem?_eq_some_iff.1 hu).1
        rw [A3.flat_len] at this
        simp at this; omega
      have hx : ((List.range n).map f)[j / 3]? = some (f (j / 3)) := by simp [show j / 3 < n by omega]
      obtain ⟨h0, h1, h2⟩ := A3.flat_at _ _ _ hx
      have hG := hF (j / 3) (by omega) (j % 3) u (by
        rcases (show j % 3 = 0 ∨ j % 3 = 1 ∨ j % 3 = 2 by omega) with h | h | h
        · rw [show j = 3 * (j / 3) by omega, h0] at hu; rw [h]; exact hu
        · rw [show j = 3 * (j / 3) + 1 by omega, h1] at hu; rw [h]; exact hu
        · rw [show j = 3 * (j / 3) + 2 by omega, h2] at hu; rw [h]; exact hu)
      rw [add_plain, add_plain] at hG
      rw [show o + j = o + j / 3 * 3 + j % 3 by omega]
      exact hG
    refine ⟨b, o, rfl, ?_, hc⟩
    obtain ⟨u, hu⟩ : ∃ u, (A3.flat ((List.range n).map f))[0]? = some u := ⟨_, List.getElem?_eq_getElem (by rw [A3.flat_len]; exact hp)⟩
    exact block_lt_of_cell (hc 0 u hu)
end
end Go.Proofs.Ytnmlggieabjapaa.frame
namespace Go.Proofs.Ytnmlggieabjapaa.parting
open Go.RowKit
open cards maps
set_option linter.unusedVariables false

set_option maxHeartbeats 400000 in
theorem sz_lines (p : Option Addr) (n c : Nat) (left : Int) (w : World) (h0 : 0 ≤ left) (h1 : left ≤ 1048576) (hn : n ≤ maxLen) :
    Calls Try.prog 33 #[.slice p n c, .int .i64 left] w fun e w' => e = .returned (.int .i64 (szLeft n left)) ∧ w = w' := by
  unfold maxLen at hn
  by_cases h : left - n < 0
  · have HT := Lib.hid (show -1 = szLeft n left by rw [szLeft, if_pos h])
    go_enter Try.func33, Try.ntmps33
    go_wp2
    go_ret
    exact ⟨ret_int HT.out, rfl⟩
  · have HT := Lib.hid (show left - n = szLeft n left by rw [szLeft, if_neg h])
    go_enter Try.func33, Try.ntmps33
    go_wp2
    go_ret
    exact ⟨ret_int HT.out, rfl⟩
set_option maxRecDepth 100000 in
theorem to_a3 (x : A3) (w : World) :
    Calls Try.prog 68 #[x.val] w fun e w' => e = .returned x.val ∧ Below w.heap.size w w' := by
  go_enter Try.func68, Try.ntmps68
  go_wp2
  go_rounds 4
  exact bodyPost_ret (v := x.val) (by simp [results, Try.results68, go_sem]) rfl ⟨rfl, by repeat (first | with_reducible exact Below.refl _ _ | with_reducible exact HB.out | with_reducible apply Below.drew | with_reducible apply bdN | with_reducible refine Below.alloc ?_ (by first | exact Nat.le_refl _ | with_reducible exact HB.out.size | omega | (simp; done) | (simp; omega) | (have := HB.out.size; simp at *; omega)) _ | with_reducible refine Below.setCell ?_ (by first | exact Nat.le_refl _ | with_reducible exact HB.out.size | omega | (simp; done) | (simp; omega) | (have := HB.out.size; simp at *; omega)) _)⟩
def zero3 : A3 := ⟨0, 0, 0⟩
theorem A3.flat_rep (n : Nat) : A3.flat (List.replicate n zero3) = List.replicate (n * 3) (.int .i64 0) := by
  induction n with
  | zero => rfl
  | succ n ih =>
    rw [List.replicate_succ, show (n + 1) * 3 = n * 3 + 1 + 1 + 1 by omega]
    show Value.int .i64 0 :: .int .i64 0 :: .int .i64 0 :: A3.flat (List.replicate n zero3) = _
    rw [ih]; rfl
theorem made_zero3 (n : Nat) : (madeCells (Value.agg #[.int .i64 0, .int .i64 0, .int .i64 0]).cells (n * 3)).toList = List.replicate (n * 3) (.int .i64 0) := by
  apply List.ext_getElem?
  intro j
  by_cases hj : j < n * 3
  · have h3 : j % 3 = 0 ∨ j % 3 = 1 ∨ j % 3 = 2 := by omega
    rw [List.getElem?_replicate, if_pos hj]
    rcases h3 with h | h | h <;> simp [madeCells, Value.cells, hj, h]
  · rw [List.getElem?_eq_none (by simpa [madeCells] using hj), List.getElem?_replicate, if_neg hj]
theorem made3 (n : Nat) (hn : n ≤ 1000000000) (w : World) : (Instr.makeSlice 24 (.int .i64 n) (.int .i64 n)).run Try.prog w = .ok (.slice (some ⟨w.heap.size, 0, none⟩) n n) (w.alloc (.cells (madeCells (Value.agg #[.int .i64 0, .int .i64 0, .int .i64 0]).cells (n * 3)) 56)) := by
  obtain ⟨i, hi, hz, hs, hb⟩ := info_parts A3.info
  have h := run_make (P := Try.prog) w 24 56 i _ Try.underlying24 hi hz .i64 .i64 n n (by omega) (by omega) (by rw [hb]; omega) (by omega)
  rw [hs] at h
  simpa using h
theorem own_made3 (w : World) (n : Nat) (hn : n ≤ 1000000000) : OwnA3 (w.alloc (.cells (madeCells (Value.agg #[.int .i64 0, .int .i64 0, .int .i64 0]).cells (n * 3)) 56)) w.heap.size (.slice (some ⟨w.heap.size, 0, none⟩) n n) (List.replicate n zero3) := by
  unfold OwnA3
  rw [List.length_replicate]
  refine ⟨by rw [A3.flat_len, List.length_replicate]; omega, .inr ⟨w.heap.size, n, _, rfl, Nat.le_refl _, heap_alloc_new w _, Nat.le_refl _, by simp only [maxLen]; omega, size_madeCells _ _, ?_⟩⟩
  rw [made_zero3, A3.flat_rep, List.take_of_length_le (by simp)]
/-- The copy when i lines are copied. -/
def part3 (l : List A3) (n i : Nat) : List A3 := l.take i ++ List.replicate (n - i) zero3
theorem part3_zero (l : List A3) (n : Nat) : part3 l n 0 = List.replicate n zero3 := by simp [part3]
theorem part3_all {l : List A3} {n : Nat} (h : l.length = n) : part3 l n n = l := by simp [part3, ← h]
theorem part3_len {l : List A3} {n i : Nat} (h : l.length = n) (hi : i ≤ n) : (part3 l n i).length = n := by simp [part3]; omega
theorem part3_set {l : List A3} {n i : Nat} {x : A3} (h : l.length = n) (hi : i < n) (hx : l[i]? = some x) : (part3 l n i).set i x = part3 l n (i + 1) := by
  unfold part3
  rw [List.set_append_right _ _ (by simp; omega), take_snoc hx, List.append_assoc]
  have e : i - (l.take i).length = 0 := by simp; omega
  rw [e, show n - i = (n - (i + 1)) + 1 by omega, List.replicate_succ]
  rfl
set_option maxRecDepth 100000 in
set_option maxHeartbeats 2000000 in
theorem to_lines (l : List A3) (p : Option Addr) (n c : Nat) (w : World) (hn : l.length = n) (hl : n ≤ 1000000000) (hr : Rd w p (A3.flat l)) :
    Calls Try.prog 35 #[.slice p n c] w fun e w' => ∃ v, e = .returned v ∧ OwnA3 w' w.heap.size v l ∧ Below w.heap.size w w' := by
  have HN := Lib.hid hn
  have HR := Lib.hid hr
  have hmk := made3 n hl
  clear hn hr
  go_enter Try.func35, Try.ntmps35
  go_wp2_with fail
  clear hmk
  go_loopw [4] (fun i wr => ∃ k : Nat, k ≤ n ∧ i = .int .i64 k ∧ Hid (OwnA3 wr w.heap.size (.slice (some ⟨w.heap.size, 0, none⟩) n n) (part3 l n k)) ∧ Hid (Below w.heap.size w wr)) (fun i _ => n - (intOf i).toNat)
  case atStart => exact ⟨0, Nat.zero_le _, rfl, by rw [part3_zero]; exact own_made3 w n hl, (Below.refl _ _).alloc (Nat.le_refl _) _⟩
  case round =>
    obtain ⟨k, hk, rfl, HO, HB⟩ := hrel
    by_cases hlt : k < n
    · obtain ⟨b, o, x, rfl, hb, hx, c0, c1, c2⟩ := (HR.out.below HB.out).aA3 (k := k) (by rw [HN.out]; exact hlt)
      have HX := Lib.hid hx
      have b0 : (0 : Int) ≤ (k : Int) := by omega
      have b1 : (k : Int) < (n : Int) := by omega
      clear hx
      go_wp2_with fail
      refine ((to_a3 x _)).mono ?_
      rintro e w1 ⟨rfl, b⟩
      have Sw1 := Lib.hid b.size
      have HB := Lib.hid (chain0 (w := w) (by repeat (first | with_reducible exact Below.refl _ _ | with_reducible exact HB.out | with_reducible apply Below.drew | with_reducible apply bdN | with_reducible refine Below.alloc ?_ (by first | exact Nat.le_refl _ | with_reducible exact HB.out.size | omega | (simp; done) | (simp; omega) | (have := HB.out.size; simp at *; omega)) _ | with_reducible refine Below.setCell ?_ (by first | exact Nat.le_refl _ | with_reducible exact HB.out.size | omega | (simp; done) | (simp; omega) | (have := HB.out.size; simp at *; omega)) _)) b)
      have HO := Lib.hid (OwnA3.below (by repeat (first | with_reducible exact HO.out | with_reducible apply OwnA3.drewN | with_reducible apply OwnA3.drew | with_reducible apply OwnA3.alloc)) b)
      clear b
      clear c0 c1 c2
      have HP := Lib.hid (part3_set (n := n) HN.out hlt HX.out)
      obtain ⟨y, hy, d0, d1, d2, hf, hB, hg⟩ := HO.out.slots (part3_len HN.out hk) k hlt
      have hz := HB.out.size
      clear hy
      have HS := Lib.hid (HO.out.store (part3_len HN.out hk) k hlt x)
      rw [HP.out] at HS
      clear HO
      go_wp2_with fail
      go_roundw
      case rel => exact ⟨k + 1, by omega, by go_num, HS, Lib.hid (by repeat (first | with_reducible exact Below.refl _ _ | with_reducible exact HB.out | with_reducible apply Below.drew | with_reducible apply bdN | with_reducible refine Below.alloc ?_ (by first | exact Nat.le_refl _ | with_reducible exact HB.out.size | omega | (simp; done) | (simp; omega) | (have := HB.out.size; simp at *; omega)) _ | with_reducible refine Below.setCell ?_ (by first | exact Nat.le_refl _ | with_reducible exact HB.out.size | omega | (simp; done) | (simp; omega) | (have := HB.out.size; simp at *; omega)) _))⟩
      case measure => simp [intOf]; omega
    · obtain rfl : k = n := by omega
      rw [part3_all HN.out] at HO
      go_wp2_with fail
      go_ret
      exact ⟨_, rfl, HO.out, HB.out⟩
/-- The copy, in the form in which the law hands it on. -/
theorem to_lines' (l : List A3) (p : Option Addr) (n c : Nat) (w : World) (hn : l.length = n) (hl : n ≤ 1000000000) (hr : Rd w p (A3.flat l)) :
    Calls Try.prog 35 #[.slice p n c] w fun e w' => ∃ p' c', e = .returned (.slice p' n c') ∧ OwnA3 w' w.heap.size (.slice p' n c') l ∧ Rd w' p' (A3.flat l) ∧ n ≤ c' ∧ Below w.heap.size w w' :=
  (to_lines l p n c w hn hl hr).mono fun e w' ⟨v, he, ho, hb⟩ => by
    obtain ⟨p', c', rfl, hc, hr', _⟩ := ho.form
    rw [hn] at he ho hc
    exact ⟨p', c', he, ho, hr', hc, hb⟩
end Go.Proofs.Ytnmlggieabjapaa.parting
