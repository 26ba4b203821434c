/- What may turn behind a visit: more lemmas. -/
import Derived.Test.YtbimbaogjknboaaPs
import Derived.Test.YtbimbaogjknboaaCt
import Derived.Test.YtbimbaogjknboaaPw
namespace Go.Proofs.Ytbimbaogjknboaa.cards
open Go.RowKit
set_option linter.unusedVariables false

theorem Turn.then_ {S T : Nat → Prop} {w a b : World} (h : Turn S w a) (k : Turn T a b) (hT : ∀ j, j < w.heap.size → T j → S j) : Turn S w b :=
  ⟨k.os.trans h.os, k.tape.trans h.tape, k.output.trans h.output, Nat.le_trans h.size k.size, fun j hj hs => (k.block j (Nat.lt_of_lt_of_le hj h.size) (fun ht => hs (hT j hj ht))).trans (h.block j hj hs)⟩
theorem Turn.and_below {S : Nat → Prop} {w a b : World} (h : Turn S w a) (k : Below a.heap.size a b) : Turn S w b := h.then_ (Turn.of_below k) (fun _ _ h => h.elim)
/-- The elder slice reads as before, when the longer one reads as before. -/
theorem OwnI.back {a b : World} {B g m c g' m' c' : Nat} {ps : List Int} {q : Int} {T : Nat → Prop} (h1 : OwnI a B (.slice (some ⟨g, 0, none⟩) m c) ps) (h2 : OwnI a B (.slice (some ⟨g', 0, none⟩) m' c') (ps ++ [q])) (h3 : OwnI b B (.slice (some ⟨g', 0, none⟩) m' c') (ps ++ [q])) (ht : Turn T a b) (hg : g ≠ g' → ¬ T g) (hm : ps.length = m) :
    OwnI b B (.slice (some ⟨g, 0, none⟩) m c) ps := by
  by_cases e : g = g'
  · subst e
    obtain ⟨l1, ⟨x, _⟩ | ⟨g1, cap1, cur1, e1, hB1, hg1, hn1, hc1, hs1, ht1⟩⟩ := h1
    · simp at x
    obtain ⟨l2, ⟨x, _⟩ | ⟨g2, cap2, cur2, e2, hB2, hg2, hn2, hc2, hs2, ht2⟩⟩ := h2
    · simp at x
    obtain ⟨l3, ⟨x, _⟩ | ⟨g3, cap3, cur3, e3, hB3, hg3, hn3, hc3, hs3, ht3⟩⟩ := h3
    · simp at x
    injection e1 with e1 _ e1c
    injection e1 with e1
    injection e1 with e1
    injection e2 with e2 _ e2c
    injection e2 with e2
    injection e2 with e2
    injection e3 with e3 _ e3c
    injection e3 with e3
    injection e3 with e3
    subst e1; subst e2; subst e3
    rw [hg1] at hg2
    injection hg2 with hg2
    injection hg2 with hg2
    subst hg2
    have hcc : cap1 = cap3 := by omega
    refine ⟨l1, .inr ⟨_, cap1, cur3, by rw [e1c, hm], hB1, hg3, hn1, hc1, by rw [hs3, hcc], ?_⟩⟩
    have h5 := congrArg (List.take (ps.length * 1)) ht3
    rw [List.take_take] at h5
    have e5 : ints (ps ++ [q]) = ints ps ++ [.int .i64 q] := by simp [ints]
    have hR : List.take (ps.length * 1) (ints ps ++ [.int .i64 q]) = ints ps := by rw [Nat.mul_one, ← ints_len ps, List.take_left]
    have hmin : min (ps.length * 1) ((ps ++ [q]).length * 1) = ps.length * 1 := by rw [List.length_append]; omega
    rw [e5, hR, hmin] at h5
    exact h5
  · exact ht.ownI h1 (fun k hk => by
      have : g = k := by simpa [Value.ownBlock] using hk
      rw [← this]; exact hg e)
end Go.Proofs.Ytbimbaogjknboaa.cards
