/- DeckParting: what the law asks of its lines, place by place. -/
import Derived.Test.YtfbcjcfhdclklaaB1
import Derived.Test.YtfbcjcfhdclklaaTh
namespace Go.Proofs.Ytfbcjcfhdclklaa.parting
open Go.RowKit
open cards
set_option linter.unusedVariables false

theorem elB_iff (n : Nat) : ∀ l : List Nat, elB n l = true ↔ n ∈ l
  | [] => by simp [elB]
  | m :: r => by rw [elB, Bool.or_eq_true, Nat.beq_eq, elB_iff n r, List.mem_cons]
theorem ndB_nodup : ∀ l : List Nat, ndB l = true → l.Nodup
  | [], _ => List.nodup_nil
  | m :: r, h => by
    rw [ndB, Bool.and_eq_true] at h
    refine List.nodup_cons.2 ⟨fun hm => ?_, ndB_nodup r h.2⟩
    have := (elB_iff m r).2 hm
    rw [this] at h; simp at h
theorem ent_len : ∀ R : List A3, (ent R).length = 3 * R.length
  | [] => rfl
  | x :: r => by simp only [ent, List.length_cons, ent_len r]; omega
theorem ent_at : ∀ (R : List A3) (i : Nat) (t : A3), R[i]? = some t → (ent R)[3 * i]? = some t.a ∧ (ent R)[3 * i + 1]? = some t.b ∧ (ent R)[3 * i + 2]? = some t.c
  | [], i, t, h => by simp at h
  | x :: r, 0, t, h => by
    obtain rfl : x = t := by simpa using h
    exact ⟨rfl, rfl, rfl⟩
  | x :: r, i + 1, t, h => by
    have ih := ent_at r i t (by simpa using h)
    refine ⟨?_, ?_, ?_⟩
    · rw [show 3 * (i + 1) = 3 * i + 3 from rfl]; exact ih.1
    · rw [show 3 * (i + 1) + 1 = (3 * i + 1) + 3 from by omega]; exact ih.2.1
    · rw [show 3 * (i + 1) + 2 = (3 * i + 2) + 3 from by omega]; exact ih.2.2
theorem upB_at : ∀ (R : List A3) (i : Nat) (s t : A3), upB R = true → R[i]? = some s → R[i + 1]? = some t → s.a < t.a
  | [], i, s, t, _, h, _ => by simp at h
  | [x], i, s, t, _, _, h => by simp at h
  | x :: y :: r, 0, s, t, h, h1, h2 => by
    obtain rfl : x = s := by simpa using h1
    obtain rfl : y = t := by simpa using h2
    rw [upB, Bool.and_eq_true, decide_eq_true_iff] at h
    exact h.1
  | x :: y :: r, i + 1, s, t, h, h1, h2 => by
    rw [upB, Bool.and_eq_true] at h
    exact upB_at (y :: r) i s t h.2 (by simpa using h1) (by simpa using h2)
theorem good_dp {c : Cd} (h : c.ok = true) (hz : same c zero = false) : goodP (dpL c 81) = true := by
  have hb := num_bd h
  have h0 : num c ≠ 0 := fun e => by
    have : c = zero := num_inj h (by decide) (e.trans (by decide))
    rw [this] at hz; revert hz; decide
  have hk := List.all_eq_true.1 all_good ((num c - 1).toNat) (by rw [List.mem_range]; omega)
  have e : (((num c - 1).toNat : Nat) : Int) + 1 = num c := by omega
  simp only [e] at hk
  have hc : cdAt (num c) = c := num_inj (cdAt_ok7 hb.1 hb.2) h (by unfold num cdAt; simp only; unfold num at hb; omega)
  rw [hc] at hk
  exact hk
structure Good (R : List A3) : Prop where
  len : R.length = 27
  ln : ∀ (i : Nat) (t : A3), R[i]? = some t → 0 ≤ t.a ∧ t.a ≤ 80 ∧ 0 ≤ t.b ∧ t.b ≤ 80 ∧ 0 ≤ t.c ∧ t.c ≤ 80 ∧ lineR (cdAt t.a) (cdAt t.b) (cdAt t.c) = (true, true)
  up : ∀ (i : Nat) (s t : A3), R[i]? = some s → R[i + 1]? = some t → s.a < t.a
  nd : (ent R).Nodup
theorem good_of {R : List A3} (h : goodP R = true) : Good R := by
  unfold goodP at h
  rw [Bool.and_eq_true, Bool.and_eq_true, Bool.and_eq_true, Nat.beq_eq] at h
  obtain ⟨⟨⟨h1, h2⟩, h3⟩, h4⟩ := h
  refine ⟨h1, fun i t ht => ?_, fun i s t => upB_at R i s t h3, ?_⟩
  · have := List.all_eq_true.1 h2 t (List.mem_of_getElem? ht)
    rw [lnB, Bool.and_eq_true, decide_eq_true_iff, decide_eq_true_iff] at this
    obtain ⟨⟨a, b, c, d, e, f⟩, g⟩ := this
    exact ⟨a, b, c, d, e, f, g⟩
  · exact List.Pairwise.of_map Int.toNat (fun a b h e => h (by rw [e])) (ndB_nodup _ h4)
/-- A number not met before. -/
theorem fresh_at {E : List Int} (h : E.Nodup) {m : Nat} {x : Int} (hx : E[m]? = some x) : x ∉ E.take m := fun hm => by
  obtain ⟨k, hk, e⟩ := List.mem_iff_getElem.1 hm
  rw [List.length_take] at hk
  rw [List.getElem_take] at e
  obtain ⟨hm2, e2⟩ := List.getElem?_eq_some_iff.1 hx
  have := (List.pairwise_iff_getElem.1 h) k m (by omega) hm2 (by omega)
  exact this (e.trans e2.symm)
theorem take_more {E : List Int} {m : Nat} {x : Int} (hx : E[m]? = some x) (y : Int) : y ∈ E.take (m + 1) ↔ (y ∈ E.take m ∨ y = x) := by
  rw [List.take_add_one, List.mem_append, hx]; simp
end Go.Proofs.Ytfbcjcfhdclklaa.parting
