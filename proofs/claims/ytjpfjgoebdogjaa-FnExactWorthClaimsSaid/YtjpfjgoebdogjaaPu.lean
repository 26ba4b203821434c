/- The model's copy of a hand, and a card put into one. -/
import Derived.Test.YtjpfjgoebdogjaaAv
import Derived.Test.YtjpfjgoebdogjaaPm
namespace Go.Proofs.Ytjpfjgoebdogjaa.cards
open Go.RowKit
set_option linter.unusedVariables false

set_option maxRecDepth 100000 in
set_option maxHeartbeats 2000000 in
theorem l2_own (l : List Cd) (p : Option Addr) (n cp : Nat) (w : World) (hn : l.length = n) (hl : n ≤ 1000000) (hr : Rd w p (flat l)) (h0 : p = none → cp = 0) :
    Calls Try.prog 51 #[.slice p n cp] w fun e w' => ∃ u, e = .returned u ∧ OwnN w' w.heap.size u l ∧ Below w.heap.size w w' := by
  have HN := Lib.hid hn
  have HR := Lib.hid hr
  have H0 := Lib.hid h0
  have HO := Lib.hid (OwnN.empty w w.heap.size (Nat.le_refl _))
  clear hn hr h0
  go_enter Try.func51, Try.ntmps51
  have hb0 : Below w.heap.size w (w.alloc (.cells #[] 34)) := (Below.refl _ _).alloc (Nat.le_refl _) _
  have HB0 := Lib.hid hb0
  clear hb0
  go_wp2_with (at_builtin; refine list_append_cards rfl (.tmp 3) (.tmp 4) rfl w.heap.size _ [] l p n cp _ rfl rfl HO.out.1 HN.out (HR.out.alloc _) H0.out (by simp; omega) HB0.out.size ?_; intro v1 w1 hO1 hN1 hB1 hG1)
  go_ret
  exact ⟨_, rfl, ⟨hO1, hN1 HO.out.2⟩, HB0.out.trans hB1⟩

theorem Box.rd1 {w : World} {g : Nat} {c : Cd} (h : Box w g c) : Rd w (some ⟨g, 0, none⟩) (flat [c]) := Rd.of_block h rfl
theorem Rd.dropIf {w : World} {b o cp : Nat} {l : List Cd} (h : Rd w (some ⟨b, o, none⟩) (flat l)) (k : Nat) (hk : l.length ≤ cp) : Rd w (if cp = k then some ⟨b, o, none⟩ else some ⟨b, o + k * 4, none⟩) (flat (l.drop k)) := by
  split
  · rename_i e
    subst e
    rw [List.drop_eq_nil_of_le hk]
    intro hp; simp [flat] at hp
  · exact h.drop k
theorem same_at {l : List Cd} {c x : Cd} (hs : sorted l) (hok : l.all Cd.ok = true) (hc : c.ok = true) (hx : l[less l c]? = some x) : same x c = there l c := by
  rw [same_num (ok_at hok hx) hc, Bool.eq_iff_iff, decide_eq_true_eq]
  constructor
  · intro h; exact ((place_is (t := c) hs hx).1 h).1
  · intro h
    obtain ⟨z, hz, hn⟩ := of_decide_eq_true h
    rw [hx] at hz; injection hz with hz; subst hz; exact hn
theorem there_end {l : List Cd} {c : Cd} (h : l.length ≤ less l c) : there l c = false := by
  rw [Bool.eq_false_iff]; intro hh
  have := there_lt hh; omega

end Go.Proofs.Ytjpfjgoebdogjaa.cards
