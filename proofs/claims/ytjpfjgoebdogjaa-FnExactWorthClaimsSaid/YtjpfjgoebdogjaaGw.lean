/- Slices of cards made one: the library's Grow of nil, and Concat. -/
import Derived.Test.YtjpfjgoebdogjaaAv
import Derived.Lib.AppendZeros
namespace Go.Proofs.Ytjpfjgoebdogjaa.cards
open Go.RowKit
set_option linter.unusedVariables false

theorem own_grown (w : World) (n : Nat) (h0 : 0 < n) (hn : n ≤ 1000000) (z : Value) (hz : z.cells.size = 4) : Own (w.drew.alloc (.cells (Builtin.zeroCells z.cells n ++ Builtin.zeroCells z.cells (grownCap w n 0 34 - n)) 34)) w.heap.size (.slice (some ⟨w.heap.size, 0, none⟩) 0 (grownCap w n 0 34)) [] := by
  have hge := grownCap_ge w n 0 34
  have hm : n ≤ maxLen := by simp only [maxLen]; omega
  refine ⟨rfl, .inr ⟨w.heap.size, _, _, rfl, Nat.le_refl _, heap_alloc_new w.drew _, Nat.zero_le _, grownCap_le_maxLen w n 0 34 hm, ?_, by simp [flat]⟩⟩
  rw [Array.size_append, size_zeroCells, size_zeroCells, hz]
  omega

set_option maxRecDepth 100000 in
set_option maxHeartbeats 2000000 in
theorem grow_nil (n : Nat) (w : World) (hn : n ≤ 1000000) :
    Calls Try.prog 118 #[.slice none 0 0, .int .i64 n] w fun e w' => ∃ v, e = .returned v ∧ Own w' w.heap.size v [] ∧ Below w.heap.size w w' := by
  obtain ⟨i, hi, hz, hsz, hb⟩ := info_parts a4info
  have hH := Lib.hid hi
  by_cases h0 : n = 0
  · subst h0
    clear hi hz hsz hb
    go_enter Try.func118, Try.ntmps118
    go_wp2_with fail
    go_ret
    exact ⟨_, rfl, Own.none_ _ _, by repeat (first | with_reducible exact Below.refl _ _ | with_reducible exact HB.out | with_reducible apply Below.drew | with_reducible apply bdN | with_reducible refine Below.alloc ?_ (by first | exact Nat.le_refl _ | with_reducible exact HB.out.size | omega | (simp; done) | (simp; omega) | (have := HB.out.size; simp at *; omega)) _)⟩
  · have m0 : (0 : Int) < (n : Int) := by omega
    have m1 : (n : Int) ≤ 1000000 := by omega
    have hr := fun ty => Lib.run_append_nil_zeros (P := Try.prog) w 22 3 ty 34 i _ .i64 .i64 Try.underlying22 Try.underlying3 hi hz n (by omega) (by omega) (by omega) (by rw [hb]; omega)
    have HRn := Lib.hid hr
    have HG := Lib.hid (own_grown w n (by omega) hn (.agg #[.int .i64 0, .int .i64 0, .int .i64 0, .int .i64 0]) rfl)
    have HBn : Hid (Below w.heap.size w (w.drew.alloc (.cells (Builtin.zeroCells (Value.agg #[.int .i64 0, .int .i64 0, .int .i64 0, .int .i64 0]).cells n ++ Builtin.zeroCells (Value.agg #[.int .i64 0, .int .i64 0, .int .i64 0, .int .i64 0]).cells (grownCap w n 0 34 - n)) 34))) := Lib.hid (by repeat (first | with_reducible exact Below.refl _ _ | with_reducible exact HB.out | with_reducible apply Below.drew | with_reducible apply bdN | with_reducible refine Below.alloc ?_ (by first | exact Nat.le_refl _ | with_reducible exact HB.out.size | omega | (simp; done) | (simp; omega) | (have := HB.out.size; simp at *; omega)) _))
    have hcap : (0 : Int) ≤ (grownCap w n 0 34 : Int) := by omega
    clear hi hz hsz hb hr
    generalize (w.drew.alloc (.cells (Builtin.zeroCells (Value.agg #[.int .i64 0, .int .i64 0, .int .i64 0, .int .i64 0]).cells n ++ Builtin.zeroCells (Value.agg #[.int .i64 0, .int .i64 0, .int .i64 0, .int .i64 0]).cells (grownCap w n 0 34 - n)) 34)) = W at HRn HG HBn
    generalize grownCap w n 0 34 = cap at HRn HG hcap
    go_enter Try.func118, Try.ntmps118
    go_wp2_with (at_builtin; refine Lib.wpList_append_run _ rfl (.tmp 20) (.tmp 21) _ _ rfl _ _ rfl rfl _ _ (HRn.out _) ?_)
    go_ret
    exact ⟨_, rfl, HG.out, HBn.out⟩

theorem flat_snoc {α : Type} {ls : List (List α)} {k : Nat} {l : List α} (h : ls[k]? = some l) : (ls.take (k + 1)).flatten = (ls.take k).flatten ++ l := by rw [take_snoc h]; simp
theorem flat_le {α : Type} (ls : List (List α)) (k : Nat) : (ls.take k).flatten.length ≤ ls.flatten.length := by
  have h := congrArg List.flatten (List.take_append_drop k ls)
  rw [List.flatten_append] at h
  rw [← h, List.length_append]; omega

set_option maxRecDepth 100000 in
set_option maxHeartbeats 4000000 in
theorem concat (ls : List (List Cd)) (gp n cp : Nat) (w : World) (hn : ls.length = n) (hn1 : n ≤ 1000) (hl : ls.flatten.length ≤ 1000000) (hg : gp < w.heap.size)
    (hp : ∀ j l, ls[j]? = some l → ∃ q c, w.cell? ⟨gp, j, none⟩ = some (.slice q l.length c) ∧ Rd w q (flat l) ∧ (q = none → c = 0)) :
    Calls Try.prog 104 #[.slice (some ⟨gp, 0, none⟩) n cp] w fun e w' => ∃ u, e = .returned u ∧ Own w' w.heap.size u ls.flatten ∧ Below w.heap.size w w' := by
  have HN := Lib.hid hn
  have HP := Lib.hid hp
  have HL := Lib.hid hl
  clear hn hp hl
  go_enter Try.func104, Try.ntmps104
  go_wp2_with fail
  go_loopw [3, 5, 11] (fun s _ i wr => ∃ k : Nat, k ≤ n ∧ i = .int .i64 k ∧ s = .int .i64 ((ls.take k).flatten.length : Nat) ∧ Hid (Below w.heap.size w wr)) (fun _ _ i _ => n - (intOf i).toNat)
  case atStart => exact ⟨0, Nat.zero_le _, rfl, rfl, Lib.hid (by repeat (first | with_reducible exact Below.refl _ _ | with_reducible exact HB.out | with_reducible apply Below.drew | with_reducible apply bdN | with_reducible refine Below.alloc ?_ (by first | exact Nat.le_refl _ | with_reducible exact HB.out.size | omega | (simp; done) | (simp; omega) | (have := HB.out.size; simp at *; omega)) _))⟩
  case round =>
    obtain ⟨k, hk, rfl, rfl, HB⟩ := hrel
    by_cases hlt : k < n
    · obtain ⟨l, hx⟩ : ∃ l, ls[k]? = some l := ⟨_, List.getElem?_eq_getElem (by rw [HN.out]; exact hlt)⟩
      obtain ⟨q, c, hc, hr, h0⟩ := HP.out k l hx
      have hc1 := (HB.out.cell (p := ⟨gp, k, none⟩) hg).trans hc
      have hs := congrArg List.length (flat_snoc hx)
      rw [List.length_append] at hs
      have h1 := flat_le ls (k + 1)
      have h2 := HL.out
      obtain ⟨a, ha⟩ : ∃ a, (ls.take k).flatten.length = a := ⟨_, rfl⟩
      obtain ⟨d, hd⟩ : ∃ d, l.length = d := ⟨_, rfl⟩
      rw [ha, hd] at hs
      rw [hd] at hc1
      rw [ha]
      have m0 : (0 : Int) ≤ (k : Int) := by omega
      have m1 : (k : Int) < (n : Int) := by omega
      have m2 : (0 : Int) ≤ (a : Int) := by omega
      have m3 : (0 : Int) ≤ (d : Int) := by omega
      have m4 : (a : Int) + (d : Int) ≤ 1000000 := by omega
      have hneg : ¬ ((a : Int) + (d : Int) < 0) := by omega
      have HSs := Lib.hid hs
      clear hx hc hr h0 ha hd hs h1 h2
      go_wp2_with fail
      go_roundw
      case rel => exact ⟨k + 1, by omega, by go_num, by rw [HSs.out]; simp, HB⟩
      case measure => simp [intOf]; omega
    · obtain rfl : k = n := by omega
      have HF := Lib.hid (show ls.take k = ls by rw [← HN.out, List.take_length])
      have h2 := HL.out
      rw [HF.out]
      obtain ⟨t, ht⟩ : ∃ t, ls.flatten.length = t := ⟨_, rfl⟩
      rw [ht] at h2 ⊢
      clear ht
      go_wp2_with fail
      refine (grow_nil t _ h2).mono ?_
      rintro e w1 ⟨v, rfl, hv, b⟩
      have HZ := Lib.hid HB.out.size
      have Sw1 := Lib.hid b.size
      have HB := Lib.hid (chain0 (w := w) (by repeat (first | with_reducible exact Below.refl _ _ | with_reducible exact HB.out | with_reducible apply Below.drew | with_reducible apply bdN | with_reducible refine Below.alloc ?_ (by first | exact Nat.le_refl _ | with_reducible exact HB.out.size | omega | (simp; done) | (simp; omega) | (have := HB.out.size; simp at *; omega)) _)) b)
      clear b
      have HV : Hid (Own w1 w.heap.size v []) := Lib.hid (hv.base HZ.out)
      clear hv
      go_wp2_with fail
      go_loopw [6, 8, 27] (fun s _ i wr => ∃ j : Nat, j ≤ k ∧ i = .int .i64 j ∧ Hid (Own wr w.heap.size s (ls.take j).flatten) ∧ Hid (Below w.heap.size w wr)) (fun _ _ i _ => k - (intOf i).toNat)
      case atStart => exact ⟨0, Nat.zero_le _, rfl, HV, HB⟩
      case round =>
        clear HB HV
        obtain ⟨j, hj, rfl, HV, HB⟩ := hrel
        by_cases hlt : j < k
        · obtain ⟨l, hx⟩ : ∃ l, ls[j]? = some l := ⟨_, List.getElem?_eq_getElem (by rw [HN.out]; exact hlt)⟩
          obtain ⟨q, c, hc, hr, h0⟩ := HP.out j l hx
          have hc1 := (HB.out.cell (p := ⟨gp, j, none⟩) hg).trans hc
          have HE := Lib.hid (flat_snoc hx)
          have hs := congrArg List.length (flat_snoc hx)
          rw [List.length_append] at hs
          have h1 := flat_le ls (j + 1)
          have HLe := Lib.hid (show (ls.take j).flatten.length + l.length ≤ 1000000000 by have := HL.out; omega)
          have HRq := Lib.hid (hr.below HB.out)
          have H0 := Lib.hid h0
          have m0 : (0 : Int) ≤ (j : Int) := by omega
          have m1 : (j : Int) < (k : Int) := by omega
          clear hx hc hr h0 hs h1
          go_wp2_with (at_builtin; refine list_append_cards rfl (.tmp 31) (.tmp 32) rfl w.heap.size _ (ls.take j).flatten l q _ c _ rfl rfl HV.out rfl HRq.out H0.out HLe.out HB.out.size ?_; intro v1 w4 hO1 hN1 hB1 hG1)
          rw [← HE.out] at hO1
          go_roundw
          case rel => exact ⟨j + 1, by omega, by go_num, hO1, HB.out.trans hB1⟩
          case measure => simp [intOf]; omega
        · obtain rfl : j = k := by omega
          go_wp2_with fail
          go_ret
          exact ⟨_, rfl, by rw [HF.out] at HV; exact HV.out, HB.out⟩
end Go.Proofs.Ytjpfjgoebdogjaa.cards
