/- JoinStrings: the model. -/
import Derived.Test.YtcjmlddpjbneiaaSv
namespace Go.Proofs.Ytcjmlddpjbneiaa.cards
open Go.RowKit
set_option linter.unusedVariables false

set_option maxRecDepth 100000 in
set_option maxHeartbeats 8000000 in
theorem spec_join (l : List ByteArray) (sep : ByteArray) (p : Option Addr) (n c : Nat) (w : World) (hn : l.length = n) (hl : n ≤ 1048576) (hs : ∀ x ∈ l, x.size ≤ 1048576) (hp : sep.size ≤ 1048576) (hr : Rd w p (tx l)) :
    Calls Try.prog 12 #[.slice p n c, .string sep] w fun e w' => e = .returned (.tuple #[.string (jsR l sep).1, .bool (jsR l sep).2]) ∧ Below w.heap.size w w' := by
  have HN := Lib.hid hn
  have HR0 := Lib.hid hr
  have HS := Lib.hid hs
  by_cases h1 : sep.size = 1
  · by_cases h0 : 0 < n
    · obtain ⟨y, rfl⟩ := one_byte h1
      have HT := Lib.hid (jsR_yes (l := l) (b := y) (by omega))
      have hb : y.toNat < 256 := y.toNat_lt
      have hn0 : ((n : Int) == 0) = false := beq_eq_false_iff_ne.2 (by omega)
      have HN0 := Lib.hid h0
      clear hn hr hs hp h1 h0
      go_enter Try.func12, Try.ntmps12
      go_wp2_with fail
      go_loopw [6, 7] (fun o i wr => ∃ (k : Nat) (t : ByteArray), k ≤ n ∧ i = .int .i64 k ∧ o = .string t ∧ Hid (t = jT (l.take k) y) ∧ Hid (anyB (l.take k) y = false) ∧ t.size ≤ 4000 ∧ Hid (Below w.heap.size w wr)) (fun _ i _ => n - (intOf i).toNat)
      case atStart => exact ⟨0, _, Nat.zero_le _, rfl, rfl, Lib.hid rfl, Lib.hid rfl, by decide, Lib.hid (Below.refl _ _)⟩
      case round =>
        obtain ⟨k, t, hk, rfl, rfl, HJ, HA, hts, HB⟩ := hrel
        by_cases hlt : k < n
        · obtain ⟨b1, o1, x, rfl, hb1, hx, cw⟩ := HR0.out.str (k := k) (by rw [HN.out]; exact hlt)
          have c0 : wr.cell? ⟨b1, o1 + k, none⟩ = some (.string x) := (HB.out.cell (p := ⟨b1, o1 + k, none⟩) hb1).trans cw
          have CW := Lib.hid cw
          clear cw
          have hxs := HS.out x (List.mem_of_getElem? hx)
          have HXm := Lib.hid (List.mem_of_getElem? hx)
          have hC := fun w => l1_stands x y w hxs
          have m0 : (0 : Int) ≤ (k : Int) := by omega
          have m1 : (k : Int) < (n : Int) := by omega
          have hTk := tk_snocB hx
          have hA2 := anyB_snoc (l.take k) x y
          rw [← hTk, HA.out, Bool.false_or] at hA2
          have hsz : 0 < k → (t ++ ⟨#[y]⟩ ++ x : ByteArray) = jT (l.take (k + 1)) y := fun h => by
            rw [hTk, jT_snoc x y (by rw [List.length_take, HN.out]; omega), ← HJ.out]
          have hsz0 : k = 0 → x = jT (l.take (k + 1)) y := fun h => by
            subst h
            rw [hTk]; exact (jT_one x y).symm
          have hlen : (jT (l.take (k + 1)) y).size ≤ 4000 ∨ ¬ sm l + l.length ≤ 4001 := by
            have e := jl_len (l := l.take (k + 1)) y (by rw [List.length_take, HN.out]; omega)
            have e2 := sm_take l (k + 1)
            rw [List.length_take, HN.out] at e
            rw [jT_size, HN.out]
            omega
          have HL := Lib.hid hlen
          have HZ := Lib.hid hsz
          have HZ0 := Lib.hid hsz0
          cases hq : hasB x y
          · rw [hq] at hC hA2
            have HA2 := Lib.hid hA2
            have HC := Lib.hid hC
            clear hx hTk hA2 hC hsz hsz0 hlen hq
            go_wp2_with fail
            have qc0 := fun d os => cell_regrown c0 d os
            refine wp_region_quiet_below (by kernel_rfl) (by kernel_rfl) ?_
            repeat (first | go_big_quiet_step ((go_at_call 36; exact Calls.regrown_of ((HC.out _).mono fun e w' h => ⟨h.1, by rw [← h.2]; exact Below.refl _ _⟩))) | quiet_step ((go_at_call 36; exact Calls.regrown_of ((HC.out _).mono fun e w' h => ⟨h.1, by rw [← h.2]; exact Below.refl _ _⟩))))
            refine wpQuiet_nil ?_
            intro w2 hw2
            have b : Below wr.heap.size wr w2 := by obtain ⟨r, hr⟩ := hw2; rw [hr]; exact below_regrown _ _ _
            clear hw2 qc0
            have Sw2 := Lib.hid b.size
            have HB := Lib.hid (chain0 (w := w) (by repeat (first | with_reducible exact Below.refl _ _ | with_reducible exact HB.out | with_reducible apply Below.drew | with_reducible apply bdN | with_reducible refine Below.alloc ?_ (by first | exact Nat.le_refl _ | with_reducible exact HB.out.size | omega | (simp; done) | (simp; omega) | (have := HB.out.size; simp at *; omega)) _ | with_reducible refine Below.setCell ?_ (by first | exact Nat.le_refl _ | with_reducible exact HB.out.size | omega | (simp; done) | (simp; omega) | (have := HB.out.size; simp at *; omega)) _)) b)
            clear b
            have c1 : w2.cell? ⟨b1, o1 + k, none⟩ = some (.string x) := (HB.out.cell (p := ⟨b1, o1 + k, none⟩) hb1).trans CW.out
            clear c0
            by_cases hk0 : 0 < k
            · have HE := Lib.hid (HZ.out hk0)
              have z1 : ¬ 9223372036854775807 < t.size + 1 := by omega
              have z2 : ¬ 9223372036854775807 < t.size + 1 + x.size := by omega
              have d0 : (0 : Int) < (k : Int) := by omega
              have hsum : (t ++ ⟨#[y]⟩ ++ x : ByteArray).size = t.size + 1 + x.size := by rw [ByteArray.size_append, ByteArray.size_append]; rfl
              have HSu := Lib.hid hsum
              clear hsum
              by_cases hbig : 4000 < t.size + 1 + x.size
              · have db : (4000 : Int) < (t.size : Int) + 1 + (x.size : Int) := by omega
                have HT2 := Lib.hid (jR_no (l := l) (b := y) (fun h => by
                  rcases HL.out with h3 | h3
                  · rw [← HE.out, HSu.out] at h3; omega
                  · exact h3 h.2))
                go_wp2_with fail
                go_ret2
                exact ⟨ret_sb (by rw [HT.out, HT2.out]), HB.out⟩
              · have db : ¬ (4000 : Int) < (t.size : Int) + 1 + (x.size : Int) := by omega
                have hz3 : t.size + 1 + x.size ≤ 4000 := by omega
                go_wp2_with fail
                go_roundw
                case rel => exact ⟨k + 1, _, by omega, by go_num, rfl, Lib.hid HE.out, HA2, by rw [HSu.out]; exact hz3, HB⟩
                case measure => simp [intOf]; omega
            · obtain rfl : k = 0 := by omega
              obtain rfl : t = ⟨#[]⟩ := by rw [HJ.out]; rfl
              have HE := Lib.hid (HZ0.out rfl)
              have c2 : w2.cell? ⟨b1, o1, none⟩ = some (.string x) := c1
              clear c1
              have z1 : ¬ 9223372036854775807 < x.size := by omega
              by_cases hbig : 4000 < x.size
              · have db : (4000 : Int) < (x.size : Int) := by omega
                have HT2 := Lib.hid (jR_no (l := l) (b := y) (fun h => by
                  rcases HL.out with h3 | h3
                  · rw [← HE.out] at h3; omega
                  · exact h3 h.2))
                go_wp2_with fail
                go_ret2
                exact ⟨ret_sb (by rw [HT.out, HT2.out]), HB.out⟩
              · have db : ¬ (4000 : Int) < (x.size : Int) := by omega
                have hz3 : x.size ≤ 4000 := by omega
                go_wp2_with fail
                go_roundw
                case rel => exact ⟨1, _, by omega, by go_num, rfl, Lib.hid (by first | exact HE.out | (rw [← HE.out]; apply ByteArray.ext; simp)), HA2, by first | exact hz3 | (simp; omega), HB⟩
                case measure => simp [intOf]; omega
          · rw [hq] at hC
            have HC := Lib.hid hC
            have HT2 := Lib.hid (jR_no (l := l) (b := y) (by intro h; have := anyB_has HXm.out hq; rw [h.1] at this; simp at this))
            clear hx hTk hA2 hC hsz hsz0 hlen hq
            go_wp2_with fail
            have qc0 := fun d os => cell_regrown c0 d os
            refine wp_region_quiet_below (by kernel_rfl) (by kernel_rfl) ?_
            repeat (first | go_big_quiet_step ((go_at_call 36; exact Calls.regrown_of ((HC.out _).mono fun e w' h => ⟨h.1, by rw [← h.2]; exact Below.refl _ _⟩))) | quiet_step ((go_at_call 36; exact Calls.regrown_of ((HC.out _).mono fun e w' h => ⟨h.1, by rw [← h.2]; exact Below.refl _ _⟩))))
            refine wpQuiet_nil ?_
            intro w2 hw2
            have b : Below wr.heap.size wr w2 := by obtain ⟨r, hr⟩ := hw2; rw [hr]; exact below_regrown _ _ _
            clear hw2 qc0
            have Sw2 := Lib.hid b.size
            have HB := Lib.hid (chain0 (w := w) (by repeat (first | with_reducible exact Below.refl _ _ | with_reducible exact HB.out | with_reducible apply Below.drew | with_reducible apply bdN | with_reducible refine Below.alloc ?_ (by first | exact Nat.le_refl _ | with_reducible exact HB.out.size | omega | (simp; done) | (simp; omega) | (have := HB.out.size; simp at *; omega)) _ | with_reducible refine Below.setCell ?_ (by first | exact Nat.le_refl _ | with_reducible exact HB.out.size | omega | (simp; done) | (simp; omega) | (have := HB.out.size; simp at *; omega)) _)) b)
            clear b
            clear c0
            go_wp2_with fail
            go_ret2
            exact ⟨ret_sb (by rw [HT.out, HT2.out]), HB.out⟩
        · obtain rfl : k = n := by omega
          have hfull : l.take k = l := List.take_of_length_le (by rw [HN.out]; exact Nat.le_refl _)
          have HT2 : Hid (jR l y = (t, true)) := Lib.hid (by
            have h1 := HJ.out
            have h2 := HA.out
            rw [hfull] at h1 h2
            have e := jl_len (l := l) y (by rw [HN.out]; exact HN0.out)
            have e2 := jT_size l y
            rw [← h1] at e2
            rw [jR_yes h2 (by omega), h1])
          clear hfull
          go_wp2_with fail
          go_ret2
          exact ⟨ret_sb (by rw [HT.out, HT2.out]), HB.out⟩
    · have HT := Lib.hid (jsR_no (l := l) (s := sep) (by omega))
      obtain rfl : n = 0 := by omega
      obtain ⟨y, rfl⟩ := one_byte h1
      clear hn hr hs h1 h0 hp
      go_enter Try.func12, Try.ntmps12
      go_wp2_with fail
      go_ret2
      exact ⟨ret_sb (by rw [HT.out]), Below.refl _ _⟩
  · have HT := Lib.hid (jsR_no (l := l) (s := sep) (by omega))
    have hb : ((sep.size : Int) != 1) = true := by simp; omega
    clear hn hr hs h1
    go_enter Try.func12, Try.ntmps12
    go_wp2_with fail
    go_ret2
    exact ⟨ret_sb (by rw [HT.out]), Below.refl _ _⟩
end Go.Proofs.Ytcjmlddpjbneiaa.cards
