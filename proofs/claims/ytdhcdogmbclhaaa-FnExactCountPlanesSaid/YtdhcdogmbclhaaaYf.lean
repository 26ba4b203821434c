/- Cards in an array that a slice shows: marked, and marks looked for again. -/
import Derived.Test.YtdhcdogmbclhaaaRx
import Derived.Test.YtdhcdogmbclhaaaYd
namespace Go.Proofs.Ytdhcdogmbclhaaa.planes
open Go.RowKit
open cards reg
set_option linter.unusedVariables false

theorem vb_rd {w : World} {g : Nat} {T : TypeId} {l : List Cd} (h : VB w g T (av l)) : Rd w (some ⟨g, 0, none⟩) (flat l) := Rd.of_block h (by simp)
theorem vb_slots {w : World} {g : Nat} {T : TypeId} {l : List Cd} (h : VB w g T (av l)) {i : Nat} {y : Cd} (hi : l[i]? = some y) :
    w.cell? ⟨g, i * 4, none⟩ = some (.int .i64 y.a) ∧ w.cell? ⟨g, i * 4 + 1, none⟩ = some (.int .i64 y.b) ∧ w.cell? ⟨g, i * 4 + 2, none⟩ = some (.int .i64 y.c) ∧ w.cell? ⟨g, i * 4 + 3, none⟩ = some (.int .i64 y.d) := by
  obtain ⟨h0, h1, h2, h3⟩ := flat_at l i y hi
  rw [Nat.mul_comm]
  exact ⟨h.at_ (by simpa using h0), h.at_ (by simpa using h1), h.at_ (by simpa using h2), h.at_ (by simpa using h3)⟩
theorem vb_store {w : World} {g : Nat} {T : TypeId} {l : List Cd} (h : VB w g T (av l)) {i : Nat} (hi : i < l.length) (x : Cd) :
    VB ((((w.setCell ⟨g, i * 4, none⟩ (.int .i64 x.a)).setCell ⟨g, i * 4 + 1, none⟩ (.int .i64 x.b)).setCell ⟨g, i * 4 + 2, none⟩ (.int .i64 x.c)).setCell ⟨g, i * 4 + 3, none⟩ (.int .i64 x.d)) g T (av (l.set i x)) := by
  have e : ∀ (xs : List Value) (j : Nat) (v : Value), xs.toArray.set! j v = (xs.set j v).toArray := fun xs j v => by simp
  have h1 := VB.set_ (v := .int .i64 x.a) h (e (flat l) (i * 4) _)
  have h2 := VB.set_ (v := .int .i64 x.b) h1 (e _ (i * 4 + 1) _)
  have h3 := VB.set_ (v := .int .i64 x.c) h2 (e _ (i * 4 + 2) _)
  have h4 := VB.set_ (v := .int .i64 x.d) h3 (e _ (i * 4 + 3) _)
  rw [flat_set l i x hi] at h4
  exact h4

set_option maxRecDepth 100000 in
set_option maxHeartbeats 4000000 in
theorem mark_arr (l : List Cd) (g c : Nat) (T : TypeId) (k0 n : Nat) (w : World) (hn : l.length = n) (hl : k0 + 4 * n ≤ 1000000000) (hv : VB w g T (av l)) :
    Calls Try.prog 20 #[.slice (some ⟨g, 0, none⟩) n c, .int .i64 k0] w fun e w' => e = .returned (.int .i64 (k0 + 4 * n : Nat)) ∧ VB w' g T (av (marked k0 n)) ∧ w.grownBy w' (some g) := by
  have HN := Lib.hid hn
  have HO := Lib.hid hv
  clear hn hv
  go_enter Try.func20, Try.ntmps20
  go_wp2_with fail
  go_loopw [1, 5, 6] (fun q i _ wr => ∃ k : Nat, k ≤ n ∧ i = .int .i64 k ∧ q = .int .i64 (k0 + 4 * k : Nat) ∧ Hid (VB wr g T (av (mks k0 l k))) ∧ Hid (w.grownBy wr (some g))) (fun _ i _ _ => n - (intOf i).toNat)
  case atStart => exact ⟨0, Nat.zero_le _, rfl, rfl, by rw [mks_zero]; exact HO, World.grownBy.refl _ _⟩
  case round =>
    clear HO
    obtain ⟨k, hk, rfl, rfl, HO, HB⟩ := hrel
    by_cases hlt : k < n
    · have hlen := mks_len (k := k0) HN.out hk
      obtain ⟨y, hy⟩ : ∃ y, (mks k0 l k)[k]? = some y := ⟨_, List.getElem?_eq_getElem (by omega)⟩
      obtain ⟨d0, d1, d2, d3⟩ := vb_slots HO.out hy
      have hf := HO.out.frozen
      have hg2 := HO.out.lt
      have b0 : (0 : Int) ≤ (k : Int) := by omega
      have b1 : (k : Int) < (n : Int) := by omega
      have HS := vb_store HO.out (i := k) (by omega) (mk k0 k)
      rw [mks_set HN.out hlt] at HS
      have HS := Lib.hid HS
      clear HO hlen hy
      go_wp2_with fail
      refine wp_loop_rounds 5 ?_
      repeat (rw [rounds_succ]; go_wp2_with fail)
      exact ⟨⟨k + 1, by omega, by go_num, by go_num, HS, grown_set (grown_set (grown_set (grown_set HB.out _ _) _ _) _ _) _ _⟩, by simp [intOf]; omega⟩
    · obtain rfl : k = n := by omega
      rw [mks_all HN.out] at HO
      go_wp2_with fail
      go_ret
      exact ⟨rfl, HO.out, HB.out⟩

set_option maxRecDepth 100000 in
set_option maxHeartbeats 4000000 in
theorem held_rd (p : Option Addr) (c k0 n : Nat) (w : World) (hl : k0 + 4 * n ≤ 1000000000) (hr : Rd w p (flat (marked k0 n))) :
    Calls Try.prog 21 #[.slice p n c, .int .i64 k0] w fun e w' => e = .returned (.int .i64 (k0 + 4 * n : Nat)) ∧ Below w.heap.size w w' := by
  have HR := Lib.hid hr
  clear hr
  go_enter Try.func21, Try.ntmps21
  go_wp2_with fail
  go_loopw [1, 5, 6] (fun q i _ wr => ∃ k : Nat, k ≤ n ∧ i = .int .i64 k ∧ q = .int .i64 (k0 + 4 * k : Nat) ∧ Hid (Below w.heap.size w wr)) (fun _ i _ _ => n - (intOf i).toNat)
  case atStart => exact ⟨0, Nat.zero_le _, rfl, rfl, Below.refl _ _⟩
  case round =>
    obtain ⟨k, hk, rfl, rfl, HB⟩ := hrel
    by_cases hlt : k < n
    · obtain ⟨b, o, x, rfl, hb, hx, d0, d1, d2, d3⟩ := (HR.out.below HB.out).card (k := k) (by rw [marked_len]; exact hlt)
      obtain rfl : mk k0 k = x := by rw [marked_at hlt] at hx; injection hx
      simp only [mk] at d0 d1 d2 d3
      have b0 : (0 : Int) ≤ (k : Int) := by omega
      have b1 : (k : Int) < (n : Int) := by omega
      clear hx
      go_wp2_with fail
      refine wp_loop_rounds 5 ?_
      repeat (rw [rounds_succ]; go_wp2_with fail)
      exact ⟨⟨k + 1, by omega, by go_num, by go_num, HB⟩, by simp [intOf]; omega⟩
    · obtain rfl : k = n := by omega
      go_wp2_with fail
      go_ret
      exact ⟨rfl, HB.out⟩

/-- The call has made a slice of the cards: a row of its own, or an array that the slice shows. -/
def OwnP (w : World) (B : Nat) (p : Option Addr) (n c : Nat) (l : List Cd) : Prop := l.length = n ∧ (Own w B (.slice p n c) l ∨ ∃ g T, p = some ⟨g, 0, none⟩ ∧ B ≤ g ∧ VB w g T (av l))
theorem OwnP.rd {w : World} {B n c : Nat} {p : Option Addr} {l : List Cd} (h : OwnP w B p n c l) : Rd w p (flat l) := by
  obtain ⟨_, h | ⟨g, T, rfl, _, h⟩⟩ := h
  · exact h.rd
  · exact vb_rd h
theorem OwnP.below {w w1 : World} {B n c : Nat} {p : Option Addr} {l : List Cd} (h : OwnP w B p n c l) (b : Below w.heap.size w w1) : OwnP w1 B p n c l := by
  obtain ⟨hn, h | ⟨g, T, e, hg, h⟩⟩ := h
  · exact ⟨hn, .inl (h.below b)⟩
  · exact ⟨hn, .inr ⟨g, T, e, hg, h.below b⟩⟩
theorem OwnP.base {w : World} {B B' n c : Nat} {p : Option Addr} {l : List Cd} (h : OwnP w B p n c l) (hB : B' ≤ B) : OwnP w B' p n c l := by
  obtain ⟨hn, h | ⟨g, T, e, hg, h⟩⟩ := h
  · exact ⟨hn, .inl (h.base hB)⟩
  · exact ⟨hn, .inr ⟨g, T, e, Nat.le_trans hB hg, h⟩⟩
theorem mark_P (l : List Cd) (p : Option Addr) (B c k0 n : Nat) (w : World) (hl : k0 + 4 * n ≤ 1000000000) (hB : B ≤ w.heap.size) (ho : OwnP w B p n c l) :
    Calls Try.prog 20 #[.slice p n c, .int .i64 k0] w fun e w' => e = .returned (.int .i64 (k0 + 4 * n : Nat)) ∧ Rd w' p (flat (marked k0 n)) ∧ w.grownBy w' (Value.slice p n c).ownBlock ∧ ∀ g, (Value.slice p n c).ownBlock = some g → B ≤ g := by
  obtain ⟨hn, h | ⟨g, T, rfl, hg, h⟩⟩ := ho
  · exact (mark_hand l (.slice p n c) B k0 n w hn hl hB h).mono fun e w' ⟨h1, h2, h3⟩ => by
      have h4 : Own w' B (.slice p (marked k0 n).length c) (marked k0 n) := by rw [marked_len]; exact h2
      exact ⟨h1, h4.rd, h3, fun g hg => (h.span g hg).1⟩
  · exact (mark_arr l g c T k0 n w hn hl h).mono fun e w' ⟨h1, h2, h3⟩ => ⟨h1, vb_rd h2, h3, fun k hk => by have hk : some g = some k := hk; injection hk with hk; omega⟩
end Go.Proofs.Ytdhcdogmbclhaaa.planes
