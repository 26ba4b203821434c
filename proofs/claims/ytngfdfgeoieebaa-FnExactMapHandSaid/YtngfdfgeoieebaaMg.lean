/- A Map that comes in: sixteen numbers of 64 bits. -/
import Derived.Test.YtngfdfgeoieebaaFw
import Derived.Test.YtngfdfgeoieebaaMc
import Derived.OpenShut
namespace Go.Proofs.Ytngfdfgeoieebaa.frame
open Go.ChangeShapes Go.WideShapes Go.ChangeAt Go.RowKit Go.Deep
open cards maps
set_option linter.unusedVariables false

section
variable {H : Type} {enc : TypeId × Value → H} {P : Program} {w : World} {base : Nat} {spare : Nat → Bool} {held : Bool}

theorem list16 {α : Type} (l : List α) (h : (⟨l⟩ : Array α).size = 16) : ∃ a b c d e f g h i j k m n o p q, l = [a, b, c, d, e, f, g, h, i, j, k, m, n, o, p, q] := by
  match l, h with
  | [a, b, c, d, e, f, g, h, i, j, k, m, n, o, p, q], _ => exact ⟨a, b, c, d, e, f, g, h, i, j, k, m, n, o, p, q, rfl⟩
theorem open_map {r : Reach} {b0 : Nat} {t ta tr tv e : TypeId} {f0 f1 : Field} {v : Value} {d : DataW H} {p : List MemPlace} (ht : P.underlying t = some (.struct #[f0, f1])) (e0 : f0.type = ta) (e1 : f1.type = tr) (o0 : f0.offset = 0) (o1 : f1.offset = 4)
    (ha : P.underlying ta = some (.array 4 e)) (hr : P.underlying tr = some (.array 4 tv)) (hv3 : P.underlying tv = some (.array 3 e)) (he : P.underlying e = some (.int .i64)) (hce : P.cellsOf e = 1) (hcv : P.cellsOf tv = 3) (hca : P.cellsOf ta = 4) (hcr : P.cellsOf tr = 12) (hct : P.cellsOf t = 16)
    (hv : Value.okWide P w r b0 t v) (h : DataW.Trod enc P w base spare held t v d p) : ∃ m : Mp, v = m.val := by
  obtain ⟨cs, rfl, hsz, _⟩ : ∃ cs, v = .agg cs ∧ cs.size = P.cellsOf t ∧ Row.okWide P w r b0 t cs := by simpa [Value.okWide, ht] using hv
  rw [hct] at hsz
  obtain ⟨l⟩ := cs
  obtain ⟨c0, c1, c2, c3, c4, c5, c6, c7, c8, c9, c10, c11, c12, c13, c14, c15, rfl⟩ := list16 l hsz
  obtain ⟨fuel, hf⟩ := h
  obtain ⟨xs, n, _, hx, hl, hlen, hff⟩ := DataW.trod_struct ht hf
  match xs, hlen with
  | [y0, y1], _ =>
    have g0 := hff 0 f0 rfl
    have g1 := hff 1 f1 rfl
    simp [e0, e1, o0, o1, hca, hcr, Value.cells] at g0 g1
    obtain ⟨z0, z1, z2, z3, m, hx, hy0, hy1, hy2, hy3⟩ := trod_array4 ha hce g0
    obtain ⟨x0, e0, rfl, _⟩ := DataW.trod_int he hy0
    obtain ⟨x1, e1, rfl, _⟩ := DataW.trod_int he hy1
    obtain ⟨x2, e2, rfl, _⟩ := DataW.trod_int he hy2
    obtain ⟨x3, e3, rfl, _⟩ := DataW.trod_int he hy3
    simp at e0 e1 e2 e3
    subst e0 e1 e2 e3
    obtain ⟨zs, m2, _, _, _, hzl, hz⟩ := DataW.trod_array hr g1
    match zs, hzl with
    | [r0, r1, r2, r3], _ =>
      have q0 := hz 0 (by omega)
      have q1 := hz 1 (by omega)
      have q2 := hz 2 (by omega)
      have q3 := hz 3 (by omega)
      simp [hcv] at q0 q1 q2 q3
      obtain ⟨s0a, s0b, s0c, n0, _, h0a, h0b, h0c⟩ := trod_array3 hv3 hce q0
      obtain ⟨x4, e4, rfl, _⟩ := DataW.trod_int he h0a
      obtain ⟨x5, e5, rfl, _⟩ := DataW.trod_int he h0b
      obtain ⟨x6, e6, rfl, _⟩ := DataW.trod_int he h0c
      simp at e4 e5 e6
      subst e4 e5 e6
      obtain ⟨s1a, s1b, s1c, n1, _, h1a, h1b, h1c⟩ := trod_array3 hv3 hce q1
      obtain ⟨x7, e7, rfl, _⟩ := DataW.trod_int he h1a
      obtain ⟨x8, e8, rfl, _⟩ := DataW.trod_int he h1b
      obtain ⟨x9, e9, rfl, _⟩ := DataW.trod_int he h1c
      simp at e7 e8 e9
      subst e7 e8 e9
      obtain ⟨s2a, s2b, s2c, n2, _, h2a, h2b, h2c⟩ := trod_array3 hv3 hce q2
      obtain ⟨x10, e10, rfl, _⟩ := DataW.trod_int he h2a
      obtain ⟨x11, e11, rfl, _⟩ := DataW.trod_int he h2b
      obtain ⟨x12, e12, rfl, _⟩ := DataW.trod_int he h2c
      simp at e10 e11 e12
      subst e10 e11 e12
      obtain ⟨s3a, s3b, s3c, n3, _, h3a, h3b, h3c⟩ := trod_array3 hv3 hce q3
      obtain ⟨x13, e13, rfl, _⟩ := DataW.trod_int he h3a
      obtain ⟨x14, e14, rfl, _⟩ := DataW.trod_int he h3b
      obtain ⟨x15, e15, rfl, _⟩ := DataW.trod_int he h3c
      simp at e13 e14 e15
      subst e13 e14 e15
      exact ⟨⟨⟨x0, x1, x2, x3⟩, ⟨x4, x5, x6⟩, ⟨x7, x8, x9⟩, ⟨x10, x11, x12⟩, ⟨x13, x14, x15⟩⟩, rfl⟩
end
end Go.Proofs.Ytngfdfgeoieebaa.frame
