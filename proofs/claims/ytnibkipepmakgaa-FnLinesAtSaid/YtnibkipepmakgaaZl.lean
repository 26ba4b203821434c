/- LineCounts: the program's. -/
import Derived.Test.YtnibkipepmakgaaZb
import Derived.Test.YtnibkipepmakgaaZe
namespace Go.Proofs.Ytnibkipepmakgaa.parting
open Go.RowKit
open cards maps
set_option linter.unusedVariables false

theorem made_ints (n : Nat) (hn : n ≤ 1000000000) (w : World) : (Instr.makeSlice 30 (.int .i64 n) (.int .i64 n)).run Try.prog w = .ok (.slice (some ⟨w.heap.size, 0, none⟩) n n) (w.alloc (.cells (madeCells (Value.int .i64 0).cells n) 3)) := by
  obtain ⟨i, hi, hz, hs, hb⟩ := info_parts int_info
  have h := run_make (P := Try.prog) w 30 3 i _ Try.underlying30 hi hz .i64 .i64 n n (by omega) (by omega) (by rw [hb]; omega) (by omega)
  rw [hs] at h
  simpa using h
theorem own_ints (w : World) (n : Nat) (hn : n ≤ 1000000000) : OwnI (w.alloc (.cells (madeCells (Value.int .i64 0).cells n) 3)) w.heap.size (.slice (some ⟨w.heap.size, 0, none⟩) n n) (List.replicate n 0) := by
  have hm : (madeCells (Value.int .i64 0).cells n).toList = List.replicate n (.int .i64 0) := by
    apply List.ext_getElem?
    intro j
    by_cases hj : j < n
    · rw [List.getElem?_replicate, if_pos hj]
      simp [madeCells, Value.cells, hj, Nat.mod_one]
    · rw [List.getElem?_eq_none (by simpa [madeCells] using hj), List.getElem?_replicate, if_neg hj]
  unfold OwnI
  rw [List.length_replicate]
  refine ⟨by simp [ints], .inr ⟨w.heap.size, n, _, rfl, Nat.le_refl _, heap_alloc_new w _, Nat.le_refl _, by simp only [maxLen]; omega, by simp [size_madeCells], ?_⟩⟩
  rw [hm]
  simp [ints]
theorem OwnI_base {w : World} {B B' : Nat} {v : Value} {l : List Int} (h : OwnI w B v l) (hB : B' ≤ B) : OwnI w B' v l := by
  obtain ⟨hl, h0 | ⟨g, cap, cur, e, hb, r⟩⟩ := h
  · exact ⟨hl, .inl h0⟩
  · exact ⟨hl, .inr ⟨g, cap, cur, e, Nat.le_trans hB hb, r⟩⟩
theorem idx3 (x : A3) : ∀ {j : Nat}, j < 3 → ∀ w : World, (Instr.index 46 x.val (.int .i64 (j : Nat))).run Try.prog w = .ok (.int .i64 (A3.get x j)) w
  | 0, _, w => by show (Instr.index 46 x.val (.int .i64 0)).run Try.prog w = .ok (.int .i64 x.a) w; kernel_rfl
  | 1, _, w => by show (Instr.index 46 x.val (.int .i64 1)).run Try.prog w = .ok (.int .i64 x.b) w; kernel_rfl
  | 2, _, w => by show (Instr.index 46 x.val (.int .i64 2)).run Try.prog w = .ok (.int .i64 x.c) w; kernel_rfl
/-- The counts when j places of a line are counted. -/
def incs (L : List Int) (x : A3) : Nat → List Int
  | 0 => L
  | j + 1 => inc (incs L x j) (A3.get x j).toNat
theorem incs_len (L : List Int) (x : A3) : ∀ j, (incs L x j).length = L.length
  | 0 => rfl
  | j + 1 => by rw [incs, inc_len, incs_len]
theorem incs_all (ls : List A3) {n a b c : Nat} (h1 : a < b) (h2 : b < c) (h3 : c < n) : incs (cnts ls n) ⟨(a : Int), (b : Int), (c : Int)⟩ 3 = cnts (ls ++ [⟨(a : Int), (b : Int), (c : Int)⟩]) n := by
  rw [← cnts_more ls h1 h2 h3]
  simp [incs, A3.get]
theorem incs_bd (ls : List A3) (n : Nat) (x : A3) (N : Int) (hN : (ls.length : Int) ≤ N) : ∀ (j : Nat) (k : Nat) (y : Int), (incs (cnts ls n) x j)[k]? = some y → 0 ≤ y ∧ y ≤ N + j
  | 0, k, y, h => by
    rw [incs] at h
    by_cases hk : k < n
    · rw [cnts_at ls hk] at h
      have := cnt_le ls (k : Int)
      injection h with h
      omega
    · rw [List.getElem?_eq_none (by rw [cnts_len]; omega)] at h; cases h
  | j + 1, k, y, h => by
    rw [incs, inc_at] at h
    split at h
    · cases e : (incs (cnts ls n) x j)[k]? with
      | none => rw [e] at h; cases h
      | some z =>
        rw [e] at h
        have := incs_bd ls n x N hN j k z e
        have h : z + 1 = y := by simpa using h
        omega
    · have := incs_bd ls n x N hN j k y h
      omega
theorem inc_is {L : List Int} {k : Nat} {y : Int} (h : L[k]? = some y) : inc L k = L.set k (y + 1) := by
  unfold inc
  rw [List.getD_eq_getElem?_getD, h]; rfl
noncomputable def lcR (l : List Cd) : List Int × Bool := if handB l = true then (cnts (allL l l.length) l.length, true) else ([], false)
theorem lcR_len (l : List Cd) : (lcR l).1.length ≤ 100000000 := by
  unfold lcR
  split
  · rename_i h
    have h1 := (handB_true.1 h).1
    show (cnts (allL l l.length) l.length).length ≤ _
    rw [cnts_len]; omega
  · simp

set_option maxRecDepth 100000 in
set_option maxHeartbeats 4000000 in
theorem impl_lc (l : List Cd) (p : Option Addr) (n cp : Nat) (w : World) (hn : l.length = n) (hl : n ≤ 1000000000) (hr : Rd w p (flat l)) :
    Calls Try.prog 8 #[.slice p n cp] w fun e w' => ∃ u, e = .returned (.tuple #[u, .bool (lcR l).2]) ∧ OwnI w' w.heap.size u (lcR l).1 ∧ Below w.heap.size w w' := by
  have HN := Lib.hid hn
  have HR := Lib.hid hr
  clear hn hr
  go_enter Try.func8, Try.ntmps8
  go_wp2_with fail
  refine (impl_lin l p n cp _ HN.out hl (by repeat (first | with_reducible exact HR.out | with_reducible apply Rd.drewN | with_reducible apply Rd.drew | with_reducible apply Rd.alloc))).mono ?_
  rintro e w1 ⟨u1, rfl, hu, b⟩
  have HU := Lib.hid hu
  have Sw1 := Lib.hid b.size
  have HB := Lib.hid (chain0 (w := w) (by repeat (first | with_reducible exact Below.refl _ _ | with_reducible exact HB.out | with_reducible apply Below.drew | with_reducible apply bdN | with_reducible refine Below.alloc ?_ (by first | exact Nat.le_refl _ | with_reducible exact HB.out.size | omega | (simp; done) | (simp; omega) | (have := HB.out.size; simp at *; omega)) _ | with_reducible refine Below.setCell ?_ (by first | exact Nat.le_refl _ | with_reducible exact HB.out.size | omega | (simp; done) | (simp; omega) | (have := HB.out.size; simp at *; omega)) _)) b)
  have HR := Lib.hid (Rd.below (by repeat (first | with_reducible exact HR.out | with_reducible apply Rd.drewN | with_reducible apply Rd.drew | with_reducible apply Rd.alloc)) b)
  clear b
  have HSz := Lib.hid HB.out.size
  clear hu
  cases hh : handB l
  · have HT := Lib.hid (show lcR l = ([], false) by unfold lcR; rw [if_neg (by simp [hh])])
    have hl2 : (linR l).2 = false := by unfold linR; rw [if_neg (by simp [hh])]
    rw [hl2]
    clear hl2 hh
    go_wp2_with fail
    go_ret2
    exact ⟨_, ret_two (by rw [HT.out]), by rw [HT.out]; exact OwnI.empty _ _ HB.out.size, by repeat (first | with_reducible exact Below.refl _ _ | with_reducible exact HB.out | with_reducible apply Below.drew | with_reducible apply bdN | with_reducible refine Below.alloc ?_ (by first | exact Nat.le_refl _ | with_reducible exact HB.out.size | omega | (simp; done) | (simp; omega) | (have := HB.out.size; simp at *; omega)) _ | with_reducible refine Below.setCell ?_ (by first | exact Nat.le_refl _ | with_reducible exact HB.out.size | omega | (simp; done) | (simp; omega) | (have := HB.out.size; simp at *; omega)) _)⟩
  · have HT := Lib.hid (show lcR l = (cnts (allL l n) n, true) by unfold lcR; rw [if_pos hh, HN.out])
    have hlr : linR l = (allL l n, true) := by unfold linR; rw [if_pos hh, HN.out]
    have HH := handB_true.1 hh
    have hlen := lines_len HH
    have hmem : ∀ x, x ∈ allL l n → ∃ i j q : Nat, i < j ∧ j < q ∧ q < n ∧ x = ⟨(i : Int), (j : Int), (q : Int)⟩ := fun x hx => by
      obtain ⟨i, j, q, h1, h2, h3, _, h4⟩ := (mem_lines HN.out HH.2.2 HH.2.1).1 hx
      exact ⟨i, j, q, h1, h2, h3, h4⟩
    have h27 : n ≤ 27 := by have := HH.1; have := HN.out; omega
    rw [HN.out] at hlen
    rw [hlr] at HU ⊢
    obtain ⟨A, hA⟩ : ∃ A, allL l n = A := ⟨_, rfl⟩
    rw [hA] at HT HU hlen hmem
    replace hmem := Lib.hid hmem
    obtain ⟨m, hm⟩ : ∃ m, A.length = m := ⟨_, rfl⟩
    rw [hm] at hlen
    have HM := Lib.hid hm
    clear hlr hh hA hm HH
    obtain ⟨pa, ca, rfl, _, ra, _⟩ := HU.out.form
    rw [HM.out] at HU ⊢
    have HA := Lib.hid ra
    clear ra
    have hm1 : m ≤ 729 := hlen
    clear hlen
    have hmk := made_ints n (by omega)
    go_wp2_with fail
    clear hmk
    go_loopw [8, 10, 24] (fun _ _ i wr => ∃ k : Nat, k ≤ m ∧ i = .int .i64 k ∧ Hid (OwnI wr w1.heap.size (.slice (some ⟨w1.heap.size, 0, none⟩) n n) (cnts (A.take k) n)) ∧ Hid (Below w1.heap.size w1 wr)) (fun _ _ i _ => m - (intOf i).toNat)
    case atStart => exact ⟨0, Nat.zero_le _, rfl, Lib.hid (by rw [List.take_zero, cnts_nil]; exact own_ints w1 n (by omega)), Lib.hid ((Below.refl _ _).alloc (Nat.le_refl _) _)⟩
    case round =>
      obtain ⟨k, hk, rfl, HO, HBr⟩ := hrel
      by_cases hlt : k < m
      · obtain ⟨b, o, x, rfl, hb, hx, c0, c1, c2⟩ := (HA.out.below HBr.out).aA3 (k := k) (by rw [HM.out]; exact hlt)
        obtain ⟨x0, x1, x2, hx1, hx2, hx3, hxe⟩ := hmem.out x (List.mem_of_getElem? hx)
        have HG := Lib.hid (show incs (cnts (A.take k) n) x 3 = cnts (A.take (k + 1)) n by rw [take_snoc hx, hxe]; exact incs_all _ hx1 hx2 hx3)
        have HBd := Lib.hid (incs_bd (A.take k) n x 729 (by rw [List.length_take]; omega))
        have HGet : Hid (∀ j, j < 3 → ∃ q : Nat, A3.get x j = q ∧ q < n) := Lib.hid (fun j hj => by
          rw [hxe]
          match j, hj with
          | 0, _ => exact ⟨x0, rfl, by omega⟩
          | 1, _ => exact ⟨x1, rfl, by omega⟩
          | 2, _ => exact ⟨x2, rfl, by omega⟩)
        obtain ⟨L, hL⟩ : ∃ L, cnts (A.take k) n = L := ⟨_, rfl⟩
        have HLl := Lib.hid (show L.length = n by rw [← hL, cnts_len])
        rw [hL] at HO HG HBd
        clear hx hL hxe
        have m0 : (0 : Int) ≤ (k : Int) := by omega
        have m1 : (k : Int) < (m : Int) := by omega
        have HO0 := Lib.hid (HO.out.alloc (A3.obj x))
        have HB0 : Hid (Below w1.heap.size w1 (wr.alloc (A3.obj x))) := Lib.hid (HBr.out.alloc HBr.out.size _)
        go_wp2_with fail
        go_loopw [10, 29] (fun _ i wr => ∃ j : Nat, j ≤ 3 ∧ i = .int .i64 j ∧ Hid (OwnI wr w1.heap.size (.slice (some ⟨w1.heap.size, 0, none⟩) n n) (incs L x j)) ∧ Hid (Below w1.heap.size w1 wr)) (fun _ i _ => 3 - (intOf i).toNat)
        case atStart => exact ⟨0, Nat.zero_le _, rfl, HO0, HB0⟩
        case round =>
          clear HO0 HB0 HO HBr c0 c1 c2
          obtain ⟨j, hj, rfl, HO, HBr⟩ := hrel
          by_cases hjt : j < 3
          · obtain ⟨q, hq, hqn⟩ := HGet.out j hjt
            have hil : (incs L x j).length = n := by rw [incs_len, HLl.out]
            obtain ⟨y, hy, d0, hf, _, hg⟩ := HO.out.slot hil q hqn
            have hyb := HBd.out j q y hy
            have HS := Lib.hid (show OwnI (wr.setCell ⟨w1.heap.size, q, none⟩ (.int .i64 (y + 1))) w1.heap.size (.slice (some ⟨w1.heap.size, 0, none⟩) n n) (incs L x (j + 1)) by
              rw [incs, hq, Int.toNat_natCast, inc_is hy]
              exact HO.out.store hil q (y + 1))
            have HB1 := Lib.hid (show Below w1.heap.size w1 (wr.setCell ⟨w1.heap.size, q, none⟩ (.int .i64 (y + 1))) from Below.setCell HBr.out (Nat.le_refl _) _)
            have i0 : ∀ w : World, (Instr.index 46 x.val (.int .i64 (j : Nat))).run Try.prog w = .ok (.int .i64 (q : Nat)) w := fun w => by rw [← hq]; exact idx3 x hjt w
            obtain ⟨y0, y1⟩ := hyb
            have y2 : y ≤ 1000 := by omega
            have m0 : (0 : Int) ≤ (q : Int) := by omega
            have m1 : (q : Int) < (n : Int) := by omega
            clear hq hy hil y1
            go_wp2_with fail
            go_roundw
            case rel => exact ⟨j + 1, by omega, by go_num, HS, HB1⟩
            case measure => simp [intOf]; omega
          · obtain rfl : j = 3 := by omega
            rw [HG.out] at HO
            go_wp2_with fail
            go_roundw
            case rel => exact ⟨k + 1, by omega, by go_num, HO, HBr⟩
            case measure => simp [intOf]; omega
      · obtain rfl : k = m := by omega
        have hfin : A.take k = A := by rw [← HM.out, List.take_length]
        rw [hfin] at HO
        clear hfin
        go_wp2_with fail
        go_ret2
        exact ⟨_, ret_two (by rw [HT.out]), by rw [HT.out]; exact OwnI_base HO.out HSz.out, HB.out.trans (HBr.out.mono HSz.out)⟩
end Go.Proofs.Ytnibkipepmakgaa.parting
