/- All cards of two hands: what they are, and their lines. -/
import Derived.Test.YtbimbaogjknboaaPm
namespace Go.Proofs.Ytbimbaogjknboaa.cards
open Go.RowKit
set_option linter.unusedVariables false

theorem allPut_self {l : List Cd} (hs : sorted l) (hok : l.all Cd.ok = true) : allPut l = l := by
  obtain ⟨h1, h2, h3⟩ := allPut_is hok
  exact sorted_ext h1 hs h3
theorem app_ok {g h : List Cd} (hg : g.all Cd.ok = true) (hh : h.all Cd.ok = true) : (g ++ h).all Cd.ok = true := by rw [List.all_append, hg, hh]; rfl
theorem allPut_app {g h : List Cd} {k : Nat} {x : Cd} (hx : h[k]? = some x) : allPut (g ++ h.take (k + 1)) = put (allPut (g ++ h.take k)) x := by
  rw [take_snoc hx, ← List.append_assoc]; simp [allPut, List.foldl_append]
theorem pos_lt {l : List Cd} {i j : Nat} {x y : Cd} (hs : sorted l) (hx : l[i]? = some x) (hy : l[j]? = some y) (h : num x < num y) : i < j := by
  rcases Nat.lt_trichotomy i j with e | e | e
  · exact e
  · subst e; rw [hx] at hy; injection hy with hy; subst hy; omega
  · have := sorted_lt hs e hy hx; omega
theorem line_mono {a b : List Cd} (ha : sorted a) (hb : sorted b) (h : ∀ x, x ∈ a → x ∈ b) (hl : hasLine a) : hasLine b := by
  obtain ⟨i, j, m, x, y, z, hij, hjm, hx, hy, hz, hlz⟩ := hl
  obtain ⟨i', hx'⟩ := List.mem_iff_getElem?.1 (h x (List.mem_of_getElem? hx))
  obtain ⟨j', hy'⟩ := List.mem_iff_getElem?.1 (h y (List.mem_of_getElem? hy))
  obtain ⟨m', hz'⟩ := List.mem_iff_getElem?.1 (h z (List.mem_of_getElem? hz))
  exact ⟨i', j', m', x, y, z, pos_lt hb hx' hy' (sorted_lt ha hij hx hy), pos_lt hb hy' hz' (sorted_lt ha hjm hy hz), hx', hy', hz', hlz⟩
theorem cap_left {g h : List Cd} (hg : sorted g) (kg : g.all Cd.ok = true) (kh : h.all Cd.ok = true) (hc : capB g = false) : capB (allPut (g ++ h)) = false := by
  obtain ⟨h1, h2, h3⟩ := allPut_is (app_ok kg kh)
  exact capB_false.2 (line_mono hg h1 (fun x hx => (h3 x).2 (List.mem_append.2 (.inl hx))) (capB_false.1 hc))
theorem cap_right {g h : List Cd} (hh : sorted h) (kg : g.all Cd.ok = true) (kh : h.all Cd.ok = true) (hc : capB h = false) : capB (allPut (g ++ h)) = false := by
  obtain ⟨h1, h2, h3⟩ := allPut_is (app_ok kg kh)
  exact capB_false.2 (line_mono hh h1 (fun x hx => (h3 x).2 (List.mem_append.2 (.inr hx))) (capB_false.1 hc))
end Go.Proofs.Ytbimbaogjknboaa.cards
