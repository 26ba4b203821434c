/- middlesOf: the program's list of middles. -/
import Derived.Test.YtjmlefcmhjodeaaXd
import Derived.Test.YtjmlefcmhjodeaaVx
import Derived.Test.YtjmlefcmhjodeaaAt
namespace Go.Proofs.Ytjmlefcmhjodeaa.others
open Go.RowKit
open cards reg
set_option linter.unusedVariables false

/-- The four cards of a parting. -/
def partAt (x y z t : Cd) : Nat → List Cd
  | 0 => [x, y, z, t]
  | 1 => [x, z, y, t]
  | _ => [x, t, y, z]
def midTo (x y z t : Cd) : Nat → List Cd
  | 0 => []
  | 1 => (if same (third x y) (third z t) = true then [third x y] else [])
  | 2 => (if same (third x y) (third z t) = true then [third x y] else []) ++ (if same (third x z) (third y t) = true then [third x z] else [])
  | _ => mids x y z t
theorem midTo_len (x y z t : Cd) (k : Nat) : (midTo x y z t k).length ≤ 3 := by
  match k with
  | 0 => simp [midTo]
  | 1 => show (if _ then _ else _ : List Cd).length ≤ 3; split <;> simp
  | 2 => show ((if _ then _ else _ : List Cd) ++ (if _ then _ else _ : List Cd)).length ≤ 3; rw [List.length_append]; split <;> split <;> simp
  | k + 3 => show (mids x y z t).length ≤ 3; unfold mids; simp only [List.length_append]; split <;> split <;> split <;> simp
abbrev z16 : Array Value := #[.int .i64 0, .int .i64 0, .int .i64 0, .int .i64 0, .int .i64 0, .int .i64 0, .int .i64 0, .int .i64 0, .int .i64 0, .int .i64 0, .int .i64 0, .int .i64 0, .int .i64 0, .int .i64 0, .int .i64 0, .int .i64 0]
theorem z16_info : ((Try.prog).info? 59).map (·.size) = some 16 := by kernel_rfl
theorem four_one (x y z t : Cd) : (four x y z t).all (·.oneCell') = true := by simp [Value.oneCell']
section
variable {w : World} {g : Nat} {x y z t : Cd}
theorem Rd.range {xs : List Value} (h : Rd w (some ⟨g, 0, none⟩) xs) {o : Nat} {ys : List Value} (he : ∀ j, j < ys.length → xs[o + j]? = ys[j]?) : w.rangeAt g o ys := fun j v hv => by
  have hj := (List.getElem?_eq_some_iff.1 hv).1
  have h2 := he j hj
  rw [hv] at h2
  obtain ⟨b, o', e, hb, hc⟩ := h (by have := (List.getElem?_eq_some_iff.1 h2).1; omega)
  injection e with e
  injection e with e1 e2
  subst e1; subst e2
  have := hc _ _ h2
  rwa [Nat.zero_add] at this
theorem Rd.range0 (h : Rd w (some ⟨g, 0, none⟩) (flat (partAt x y z t 0 ++ (partAt x y z t 1 ++ partAt x y z t 2)))) : w.rangeAt g 0 (four x y z t).toList := Rd.range h (fun j hj => by
  have hj : j < 16 := hj
  rcases (show j = 0 ∨ j = 1 ∨ j = 2 ∨ j = 3 ∨ j = 4 ∨ j = 5 ∨ j = 6 ∨ j = 7 ∨ j = 8 ∨ j = 9 ∨ j = 10 ∨ j = 11 ∨ j = 12 ∨ j = 13 ∨ j = 14 ∨ j = 15 by omega) with rfl | rfl | rfl | rfl | rfl | rfl | rfl | rfl | rfl | rfl | rfl | rfl | rfl | rfl | rfl | rfl <;> rfl)
theorem Rd.range1 (h : Rd w (some ⟨g, 0, none⟩) (flat (partAt x y z t 0 ++ (partAt x y z t 1 ++ partAt x y z t 2)))) : w.rangeAt g 16 (four x z y t).toList := Rd.range h (fun j hj => by
  have hj : j < 16 := hj
  rcases (show j = 0 ∨ j = 1 ∨ j = 2 ∨ j = 3 ∨ j = 4 ∨ j = 5 ∨ j = 6 ∨ j = 7 ∨ j = 8 ∨ j = 9 ∨ j = 10 ∨ j = 11 ∨ j = 12 ∨ j = 13 ∨ j = 14 ∨ j = 15 by omega) with rfl | rfl | rfl | rfl | rfl | rfl | rfl | rfl | rfl | rfl | rfl | rfl | rfl | rfl | rfl | rfl <;> rfl)
theorem Rd.range2 (h : Rd w (some ⟨g, 0, none⟩) (flat (partAt x y z t 0 ++ (partAt x y z t 1 ++ partAt x y z t 2)))) : w.rangeAt g 32 (four x t y z).toList := Rd.range h (fun j hj => by
  have hj : j < 16 := hj
  rcases (show j = 0 ∨ j = 1 ∨ j = 2 ∨ j = 3 ∨ j = 4 ∨ j = 5 ∨ j = 6 ∨ j = 7 ∨ j = 8 ∨ j = 9 ∨ j = 10 ∨ j = 11 ∨ j = 12 ∨ j = 13 ∨ j = 14 ∨ j = 15 by omega) with rfl | rfl | rfl | rfl | rfl | rfl | rfl | rfl | rfl | rfl | rfl | rfl | rfl | rfl | rfl | rfl <;> rfl)
end

theorem take4 {ops : Array Oper} {rest : List Oper} {o : Oper} {a : Act} {w : World} {Q : Exit → Act → World → Prop} (hgd : o.guard = none) (x : Operand) (ho : o.op = .load 59 x) {g off : Nat} {cs : Array Value} (h : w.rangeAt g off cs.toList) (hs : cs.size = 16) (hx : a.eval x = .pointer (some ⟨g, off, none⟩))
    (hk : wpList Try.prog ops Q rest (a.put o.dst (.agg cs)) w) : wpList Try.prog ops Q (o :: rest) a w :=
  wpList_load_mid hgd 59 x ho g off hx cs.toList _ h Try.underlying59 rfl (by rw [Array.length_toList, hs]; exact z16_info) (by rw [Array.toArray_toList]; exact hk)
theorem store4 {ops : Array Oper} {rest : List Oper} {o : Oper} {a : Act} {w : World} {Q : Exit → Act → World → Prop} (hgd : o.guard = none) (x y : Operand) (ho : o.op = .store 59 x y) {g : Nat} (h : VB w g 59 z16) (hx : a.eval x = .pointer (some ⟨g, 0, none⟩))
    (cs2 : Array Value) (hs2 : cs2.size = 16) (h1 : cs2.all (·.oneCell') = true) (hy : a.eval y = .agg cs2) (hk : ∀ w', VB w' g 59 cs2 → w.grownBy w' (some g) → wpList Try.prog ops Q rest (a.put o.dst undef) w') : wpList Try.prog ops Q (o :: rest) a w :=
  store_vb hgd 59 x y ho h z16_info hx cs2 hs2 h1 hy hk

set_option maxRecDepth 100000 in
set_option maxHeartbeats 8000000 in
theorem middles_of (x y z t : Cd) (w : World) (hx : x.ok = true) (hy : y.ok = true) (hz : z.ok = true) (ht : t.ok = true) :
    Calls Try.prog 55 #[x.val, y.val, z.val, t.val] w fun e w' => ∃ u, e = .returned u ∧ Own w' w.heap.size u (mids x y z t) ∧ Below w.heap.size w w' := by
  have HXx := Lib.hid hx
  have HXy := Lib.hid hy
  have HXz := Lib.hid hz
  have HXt := Lib.hid ht
  clear hx hy hz ht
  go_enter Try.func55, Try.ntmps55
  go_upto_region 1 with fail
  obtain ⟨wa, ew, b⟩ : ∃ wOPN : World, wOPN = ((((w.alloc x.obj).alloc y.obj).alloc z.obj).alloc t.obj) ∧ Below (((((w.alloc x.obj).alloc y.obj).alloc z.obj).alloc t.obj)).heap.size (((((w.alloc x.obj).alloc y.obj).alloc z.obj).alloc t.obj)) wOPN := ⟨_, rfl, Below.refl _ _⟩
  rw [← ew]
  clear ew
  have Swa := Lib.hid b.size
  have HB := Lib.hid (chain0 (w := w) (by repeat (first | with_reducible exact Below.refl _ _ | with_reducible exact HB.out | with_reducible apply Below.drew | with_reducible apply bdN | with_reducible refine Below.alloc ?_ (by first | exact Nat.le_refl _ | with_reducible exact HB.out.size | omega | (simp; done) | (simp; omega) | (have := HB.out.size; simp at *; omega)) _ | with_reducible refine Below.setCell ?_ (by first | exact Nat.le_refl _ | with_reducible exact HB.out.size | omega | (simp; done) | (simp; omega) | (have := HB.out.size; simp at *; omega)) _)) b)
  have K0 : Hid (Box _ (w.heap.size) (x)) := Lib.hid (Box.below (by repeat (first | with_reducible exact K0.out | with_reducible apply Box.drewN | with_reducible apply Box.drew | (with_reducible refine Box.newAt ?_ ?_ <;> first | (simp; done) | rfl) | with_reducible apply Box.alloc)) b)
  have K1 : Hid (Box _ (w.heap.size + 1) (y)) := Lib.hid (Box.below (by repeat (first | with_reducible exact K1.out | with_reducible apply Box.drewN | with_reducible apply Box.drew | (with_reducible refine Box.newAt ?_ ?_ <;> first | (simp; done) | rfl) | with_reducible apply Box.alloc)) b)
  have K2 : Hid (Box _ (w.heap.size + 1 + 1) (z)) := Lib.hid (Box.below (by repeat (first | with_reducible exact K2.out | with_reducible apply Box.drewN | with_reducible apply Box.drew | (with_reducible refine Box.newAt ?_ ?_ <;> first | (simp; done) | rfl) | with_reducible apply Box.alloc)) b)
  have K3 : Hid (Box _ (w.heap.size + 1 + 1 + 1) (t)) := Lib.hid (Box.below (by repeat (first | with_reducible exact K3.out | with_reducible apply Box.drewN | with_reducible apply Box.drew | (with_reducible refine Box.newAt ?_ ?_ <;> first | (simp; done) | rfl) | with_reducible apply Box.alloc)) b)
  try clear k0a k0b k0c k0d k0z
  have k0z := K0.out.lt
  obtain ⟨k0a, k0b, k0c, k0d⟩ := K0.out.cell
  try clear k1a k1b k1c k1d k1z
  have k1z := K1.out.lt
  obtain ⟨k1a, k1b, k1c, k1d⟩ := K1.out.cell
  try clear k2a k2b k2c k2d k2z
  have k2z := K2.out.lt
  obtain ⟨k2a, k2b, k2c, k2d⟩ := K2.out.cell
  try clear k3a k3b k3c k3d k3z
  have k3z := K3.out.lt
  obtain ⟨k3a, k3b, k3c, k3d⟩ := K3.out.cell
  clear b
  have O0 := Lib.hid (Own.empty wa w.heap.size HB.out.size)
  go_upto_region 2 with fail
  obtain ⟨wb, ew, b⟩ : ∃ wOPN : World, wOPN = (wa.alloc (.cells #[] 25)) ∧ Below ((wa.alloc (.cells #[] 25))).heap.size ((wa.alloc (.cells #[] 25))) wOPN := ⟨_, rfl, Below.refl _ _⟩
  rw [← ew]
  clear ew
  have Swb := Lib.hid b.size
  have HB := Lib.hid (chain0 (w := w) (by repeat (first | with_reducible exact Below.refl _ _ | with_reducible exact HB.out | with_reducible apply Below.drew | with_reducible apply bdN | with_reducible refine Below.alloc ?_ (by first | exact Nat.le_refl _ | with_reducible exact HB.out.size | omega | (simp; done) | (simp; omega) | (have := HB.out.size; simp at *; omega)) _ | with_reducible refine Below.setCell ?_ (by first | exact Nat.le_refl _ | with_reducible exact HB.out.size | omega | (simp; done) | (simp; omega) | (have := HB.out.size; simp at *; omega)) _)) b)
  have O0 := Lib.hid (Own.below (by repeat (first | with_reducible exact O0.out | with_reducible apply Own.drewN | with_reducible apply Own.drew | with_reducible apply Own.alloc)) b)
  have K0 : Hid (Box _ (w.heap.size) (x)) := Lib.hid (Box.below (by repeat (first | with_reducible exact K0.out | with_reducible apply Box.drewN | with_reducible apply Box.drew | (with_reducible refine Box.newAt ?_ ?_ <;> first | (simp; done) | rfl) | with_reducible apply Box.alloc)) b)
  have K1 : Hid (Box _ (w.heap.size + 1) (y)) := Lib.hid (Box.below (by repeat (first | with_reducible exact K1.out | with_reducible apply Box.drewN | with_reducible apply Box.drew | (with_reducible refine Box.newAt ?_ ?_ <;> first | (simp; done) | rfl) | with_reducible apply Box.alloc)) b)
  have K2 : Hid (Box _ (w.heap.size + 1 + 1) (z)) := Lib.hid (Box.below (by repeat (first | with_reducible exact K2.out | with_reducible apply Box.drewN | with_reducible apply Box.drew | (with_reducible refine Box.newAt ?_ ?_ <;> first | (simp; done) | rfl) | with_reducible apply Box.alloc)) b)
  have K3 : Hid (Box _ (w.heap.size + 1 + 1 + 1) (t)) := Lib.hid (Box.below (by repeat (first | with_reducible exact K3.out | with_reducible apply Box.drewN | with_reducible apply Box.drew | (with_reducible refine Box.newAt ?_ ?_ <;> first | (simp; done) | rfl) | with_reducible apply Box.alloc)) b)
  try clear k0a k0b k0c k0d k0z
  have k0z := K0.out.lt
  obtain ⟨k0a, k0b, k0c, k0d⟩ := K0.out.cell
  try clear k1a k1b k1c k1d k1z
  have k1z := K1.out.lt
  obtain ⟨k1a, k1b, k1c, k1d⟩ := K1.out.cell
  try clear k2a k2b k2c k2d k2z
  have k2z := K2.out.lt
  obtain ⟨k2a, k2b, k2c, k2d⟩ := K2.out.cell
  try clear k3a k3b k3c k3d k3z
  have k3z := K3.out.lt
  obtain ⟨k3a, k3b, k3c, k3d⟩ := K3.out.cell
  clear b
  obtain ⟨g, hg⟩ : ∃ g, wa.heap.size = g := ⟨_, rfl⟩
  rw [hg] at O0
  try rw [hg]
  clear hg
  have HR : Hid (VB (wb.alloc (.cells (flat (partAt x y z t 0 ++ (partAt x y z t 1 ++ partAt x y z t 2))).toArray 59)) wb.heap.size 59 (flat (partAt x y z t 0 ++ (partAt x y z t 1 ++ partAt x y z t 2))).toArray) := Lib.hid (VB.newAt rfl rfl)
  have HA : Hid (∀ q, (Value.slice (some ⟨g, 0, none⟩) 0 0).ownBlock = some q → q ≠ wb.heap.size) := Lib.hid (fun q hq => by have h1 := Own.lt O0.out q hq; omega)
  go_wp2_with fail
  have HB2 : Hid (Below w.heap.size w (wb.alloc (.cells (flat (partAt x y z t 0 ++ (partAt x y z t 1 ++ partAt x y z t 2))).toArray 59))) := Lib.hid (HB.out.alloc HB.out.size _)
  have O1 := Lib.hid (Own.alloc O0.out (.cells (flat (partAt x y z t 0 ++ (partAt x y z t 1 ++ partAt x y z t 2))).toArray 59))
  have HV0 := Lib.hid (show midTo x y z t 0 = [] from rfl)
  clear k0a k0b k0c k0d k1a k1b k1c k1d k2a k2b k2c k2d k3a k3b k3c k3d k0z k1z k2z k3z K0 K1 K2 K3 O0 HB
  obtain ⟨G, hG⟩ : ∃ G, wb.heap.size = G := ⟨_, rfl⟩
  rw [hG] at HR HA
  try rw [hG]
  clear hG
  go_loopw [9, 11, 12, 31] (fun o _ _ i wr => ∃ k : Nat, k ≤ 3 ∧ i = .int .i64 k ∧ Hid (Own wr w.heap.size o (midTo x y z t k)) ∧ Hid (Below w.heap.size w wr) ∧ Hid (VB wr G 59 (flat (partAt x y z t 0 ++ (partAt x y z t 1 ++ partAt x y z t 2))).toArray) ∧ Hid (∀ q, o.ownBlock = some q → q ≠ G)) (fun _ _ _ i _ => 3 - (intOf i).toNat)
  case atStart => exact ⟨0, by omega, rfl, O1, HB2, HR, HA⟩
  case round =>
    clear O1 HB2 HR HV0 HA
    obtain ⟨k, hk, rfl, HO, HB, HR, HA⟩ := hrel
    rcases (show k = 0 ∨ k = 1 ∨ k = 2 ∨ k = 3 by omega) with rfl | rfl | rfl | rfl
    · have he := eq_run (third x y) (third z t) (third_ok _ _) (third_ok _ _)
      have HS := Lib.hid (show midTo x y z t 1 = midTo x y z t 0 ++ (if same (third x y) (third z t) = true then [third x y] else []) by simp [midTo, mids])
      have HL := Lib.hid (midTo_len x y z t 0)
      have HG : Hid (wr.rangeAt G 0 (four x y z t).toList) := Lib.hid (Rd.range0 (Rd.of_block HR.out (by simp)))
      have KQ : Hid (VB (wr.alloc (.cells z16 59)) wr.heap.size 59 z16) := Lib.hid (VB.newAt rfl rfl)
      have HB1 := Lib.hid (HB.out.alloc HB.out.size (.cells z16 59))
      have HO1 := Lib.hid (Own.alloc HO.out (.cells z16 59))
      have HS1 := Lib.hid (show (four x y z t).size = 16 from rfl)
      have HS2 := Lib.hid (four_one x y z t)
      obtain ⟨cs, hcs⟩ : ∃ cs, four x y z t = cs := ⟨_, rfl⟩
      have HCs := Lib.hid hcs
      rw [hcs] at HG HS1 HS2
      clear hcs
      go_upto_region 5 with (first | ((with_reducible refine take4 rfl _ rfl HG.out HS1.out ?_ ?_); rfl) | ((with_reducible refine store4 rfl _ _ rfl KQ.out ?_ cs HS1.out HS2.out ?_ ?_); rfl; rfl; intro w2 hV hG2))
      have b : Below wr.heap.size wr w2 := Below.grown ((Below.refl _ _).alloc (Nat.le_refl _) _) hG2 (by simp) (fun k hk => by injection hk with hk; omega)
      have Sw2 := Lib.hid b.size
      have HB := Lib.hid (chain0 (w := w) (by repeat (first | with_reducible exact Below.refl _ _ | with_reducible exact HB.out | with_reducible apply Below.drew | with_reducible apply bdN | with_reducible refine Below.alloc ?_ (by first | exact Nat.le_refl _ | with_reducible exact HB.out.size | omega | (simp; done) | (simp; omega) | (have := HB.out.size; simp at *; omega)) _ | with_reducible refine Below.setCell ?_ (by first | exact Nat.le_refl _ | with_reducible exact HB.out.size | omega | (simp; done) | (simp; omega) | (have := HB.out.size; simp at *; omega)) _)) b)
      have HO := Lib.hid (Own.below (by repeat (first | with_reducible exact HO.out | with_reducible apply Own.drewN | with_reducible apply Own.drew | with_reducible apply Own.alloc)) b)
      have HR := Lib.hid (VB.below (by repeat (first | with_reducible exact HR.out | with_reducible apply VB.drewN | with_reducible apply VB.drew | with_reducible apply VB.alloc)) b)
      clear b
      rw [← HCs.out] at hV
      have KV := Lib.hid hV
      clear hV hG2 HB1 HO1 KQ HG HS1 HS2 HCs
      obtain ⟨g2, hg2⟩ : ∃ g2, wr.heap.size = g2 := ⟨_, rfl⟩
      rw [hg2] at KV
      try rw [hg2]
      clear hg2
      have d0 := VB.at_ KV.out (j := 0) rfl
      have d1 := VB.at_ KV.out (j := 1) rfl
      have d2 := VB.at_ KV.out (j := 2) rfl
      have d3 := VB.at_ KV.out (j := 3) rfl
      have d4 := VB.at_ KV.out (j := 4) rfl
      have d5 := VB.at_ KV.out (j := 5) rfl
      have d6 := VB.at_ KV.out (j := 6) rfl
      have d7 := VB.at_ KV.out (j := 7) rfl
      go_wp2_with fail
      refine ((third_of x y _ HXx.out HXy.out)).mono ?_
      rintro e w3 ⟨rfl, b⟩
      have Sw3 := Lib.hid b.size
      have HB := Lib.hid (chain0 (w := w) (by repeat (first | with_reducible exact Below.refl _ _ | with_reducible exact HB.out | with_reducible apply Below.drew | with_reducible apply bdN | with_reducible refine Below.alloc ?_ (by first | exact Nat.le_refl _ | with_reducible exact HB.out.size | omega | (simp; done) | (simp; omega) | (have := HB.out.size; simp at *; omega)) _ | with_reducible refine Below.setCell ?_ (by first | exact Nat.le_refl _ | with_reducible exact HB.out.size | omega | (simp; done) | (simp; omega) | (have := HB.out.size; simp at *; omega)) _)) b)
      have HO := Lib.hid (Own.below (by repeat (first | with_reducible exact HO.out | with_reducible apply Own.drewN | with_reducible apply Own.drew | with_reducible apply Own.alloc)) b)
      have HR := Lib.hid (VB.below (by repeat (first | with_reducible exact HR.out | with_reducible apply VB.drewN | with_reducible apply VB.drew | with_reducible apply VB.alloc)) b)
      have KV := Lib.hid (VB.below (by repeat (first | with_reducible exact KV.out | with_reducible apply VB.drewN | with_reducible apply VB.drew | with_reducible apply VB.alloc)) b)
      clear b
      clear d0 d1 d2 d3 d4 d5 d6 d7
      go_upto_region 6 with fail
      obtain ⟨w4, ew, b⟩ : ∃ wOPN : World, wOPN = (w3.alloc (third x y).obj) ∧ Below ((w3.alloc (third x y).obj)).heap.size ((w3.alloc (third x y).obj)) wOPN := ⟨_, rfl, Below.refl _ _⟩
      rw [← ew]
      clear ew
      have Sw4 := Lib.hid b.size
      have HB := Lib.hid (chain0 (w := w) (by repeat (first | with_reducible exact Below.refl _ _ | with_reducible exact HB.out | with_reducible apply Below.drew | with_reducible apply bdN | with_reducible refine Below.alloc ?_ (by first | exact Nat.le_refl _ | with_reducible exact HB.out.size | omega | (simp; done) | (simp; omega) | (have := HB.out.size; simp at *; omega)) _ | with_reducible refine Below.setCell ?_ (by first | exact Nat.le_refl _ | with_reducible exact HB.out.size | omega | (simp; done) | (simp; omega) | (have := HB.out.size; simp at *; omega)) _)) b)
      have HO := Lib.hid (Own.below (by repeat (first | with_reducible exact HO.out | with_reducible apply Own.drewN | with_reducible apply Own.drew | with_reducible apply Own.alloc)) b)
      have HR := Lib.hid (VB.below (by repeat (first | with_reducible exact HR.out | with_reducible apply VB.drewN | with_reducible apply VB.drew | with_reducible apply VB.alloc)) b)
      have KV := Lib.hid (VB.below (by repeat (first | with_reducible exact KV.out | with_reducible apply VB.drewN | with_reducible apply VB.drew | with_reducible apply VB.alloc)) b)
      have K4 : Hid (Box _ (w3.heap.size) ((third x y))) := Lib.hid (Box.below (by repeat (first | with_reducible exact K4.out | with_reducible apply Box.drewN | with_reducible apply Box.drew | (with_reducible refine Box.newAt ?_ ?_ <;> first | (simp; done) | rfl) | with_reducible apply Box.alloc)) b)
      try clear k4a k4b k4c k4d k4z
      have k4z := K4.out.lt
      obtain ⟨k4a, k4b, k4c, k4d⟩ := K4.out.cell
      clear b
      have d8 := VB.at_ KV.out (j := 8) rfl
      have d9 := VB.at_ KV.out (j := 9) rfl
      have d10 := VB.at_ KV.out (j := 10) rfl
      have d11 := VB.at_ KV.out (j := 11) rfl
      have d12 := VB.at_ KV.out (j := 12) rfl
      have d13 := VB.at_ KV.out (j := 13) rfl
      have d14 := VB.at_ KV.out (j := 14) rfl
      have d15 := VB.at_ KV.out (j := 15) rfl
      cases hq : same (third x y) (third z t)
      · rw [hq] at he HS
        clear hq
        have qk4a := fun d os => cell_regrown k4a d os
        have qk4b := fun d os => cell_regrown k4b d os
        have qk4c := fun d os => cell_regrown k4c d os
        have qk4d := fun d os => cell_regrown k4d d os
        have qd8 := fun d os => cell_regrown d8 d os
        have qd9 := fun d os => cell_regrown d9 d os
        have qd10 := fun d os => cell_regrown d10 d os
        have qd11 := fun d os => cell_regrown d11 d os
        have qd12 := fun d os => cell_regrown d12 d os
        have qd13 := fun d os => cell_regrown d13 d os
        have qd14 := fun d os => cell_regrown d14 d os
        have qd15 := fun d os => cell_regrown d15 d os
        refine wp_region_quiet_below (by kernel_rfl) (by kernel_rfl) ?_
        repeat (first | go_big_quiet_step ((go_at_call 88; with_reducible exact Calls.regrown_of (third_of _ _ _ HXz.out HXt.out))) | quiet_step ((go_at_call 88; with_reducible exact Calls.regrown_of (third_of _ _ _ HXz.out HXt.out))))
        refine wpQuiet_nil ?_
        intro w5 hw2
        have b : Below w4.heap.size w4 w5 := by obtain ⟨r, hr⟩ := hw2; rw [hr]; exact below_regrown _ _ _
        clear hw2 qd8 qd9 qd10 qd11 qd12 qd13 qd14 qd15 qk4a qk4b qk4c qk4d
        have Sw5 := Lib.hid b.size
        have HB := Lib.hid (chain0 (w := w) (by repeat (first | with_reducible exact Below.refl _ _ | with_reducible exact HB.out | with_reducible apply Below.drew | with_reducible apply bdN | with_reducible refine Below.alloc ?_ (by first | exact Nat.le_refl _ | with_reducible exact HB.out.size | omega | (simp; done) | (simp; omega) | (have := HB.out.size; simp at *; omega)) _ | with_reducible refine Below.setCell ?_ (by first | exact Nat.le_refl _ | with_reducible exact HB.out.size | omega | (simp; done) | (simp; omega) | (have := HB.out.size; simp at *; omega)) _)) b)
        have HO := Lib.hid (Own.below (by repeat (first | with_reducible exact HO.out | with_reducible apply Own.drewN | with_reducible apply Own.drew | with_reducible apply Own.alloc)) b)
        have HR := Lib.hid (VB.below (by repeat (first | with_reducible exact HR.out | with_reducible apply VB.drewN | with_reducible apply VB.drew | with_reducible apply VB.alloc)) b)
        have KV := Lib.hid (VB.below (by repeat (first | with_reducible exact KV.out | with_reducible apply VB.drewN | with_reducible apply VB.drew | with_reducible apply VB.alloc)) b)
        have K4 : Hid (Box _ (w3.heap.size) ((third x y))) := Lib.hid (Box.below (by repeat (first | with_reducible exact K4.out | with_reducible apply Box.drewN | with_reducible apply Box.drew | (with_reducible refine Box.newAt ?_ ?_ <;> first | (simp; done) | rfl) | with_reducible apply Box.alloc)) b)
        try clear k4a k4b k4c k4d k4z
        have k4z := K4.out.lt
        obtain ⟨k4a, k4b, k4c, k4d⟩ := K4.out.cell
        clear b
        clear d8 d9 d10 d11 d12 d13 d14 d15
        go_wp2_with fail
        go_roundw
        case rel => exact ⟨1, by omega, by go_num, by rw [HS.out]; simpa using HO, HB, HR, HA⟩
        case measure => simp [intOf]
      · rw [hq] at he HS
        clear hq
        have qk4a := fun d os => cell_regrown k4a d os
        have qk4b := fun d os => cell_regrown k4b d os
        have qk4c := fun d os => cell_regrown k4c d os
        have qk4d := fun d os => cell_regrown k4d d os
        have qd8 := fun d os => cell_regrown d8 d os
        have qd9 := fun d os => cell_regrown d9 d os
        have qd10 := fun d os => cell_regrown d10 d os
        have qd11 := fun d os => cell_regrown d11 d os
        have qd12 := fun d os => cell_regrown d12 d os
        have qd13 := fun d os => cell_regrown d13 d os
        have qd14 := fun d os => cell_regrown d14 d os
        have qd15 := fun d os => cell_regrown d15 d os
        refine wp_region_quiet_below (by kernel_rfl) (by kernel_rfl) ?_
        repeat (first | go_big_quiet_step ((go_at_call 88; with_reducible exact Calls.regrown_of (third_of _ _ _ HXz.out HXt.out))) | quiet_step ((go_at_call 88; with_reducible exact Calls.regrown_of (third_of _ _ _ HXz.out HXt.out))))
        refine wpQuiet_nil ?_
        intro w5 hw2
        have b : Below w4.heap.size w4 w5 := by obtain ⟨r, hr⟩ := hw2; rw [hr]; exact below_regrown _ _ _
        clear hw2 qd8 qd9 qd10 qd11 qd12 qd13 qd14 qd15 qk4a qk4b qk4c qk4d
        have Sw5 := Lib.hid b.size
        have HB := Lib.hid (chain0 (w := w) (by repeat (first | with_reducible exact Below.refl _ _ | with_reducible exact HB.out | with_reducible apply Below.drew | with_reducible apply bdN | with_reducible refine Below.alloc ?_ (by first | exact Nat.le_refl _ | with_reducible exact HB.out.size | omega | (simp; done) | (simp; omega) | (have := HB.out.size; simp at *; omega)) _ | with_reducible refine Below.setCell ?_ (by first | exact Nat.le_refl _ | with_reducible exact HB.out.size | omega | (simp; done) | (simp; omega) | (have := HB.out.size; simp at *; omega)) _)) b)
        have HO := Lib.hid (Own.below (by repeat (first | with_reducible exact HO.out | with_reducible apply Own.drewN | with_reducible apply Own.drew | with_reducible apply Own.alloc)) b)
        have HR := Lib.hid (VB.below (by repeat (first | with_reducible exact HR.out | with_reducible apply VB.drewN | with_reducible apply VB.drew | with_reducible apply VB.alloc)) b)
        have KV := Lib.hid (VB.below (by repeat (first | with_reducible exact KV.out | with_reducible apply VB.drewN | with_reducible apply VB.drew | with_reducible apply VB.alloc)) b)
        have K4 : Hid (Box _ (w3.heap.size) ((third x y))) := Lib.hid (Box.below (by repeat (first | with_reducible exact K4.out | with_reducible apply Box.drewN | with_reducible apply Box.drew | (with_reducible refine Box.newAt ?_ ?_ <;> first | (simp; done) | rfl) | with_reducible apply Box.alloc)) b)
        try clear k4a k4b k4c k4d k4z
        have k4z := K4.out.lt
        obtain ⟨k4a, k4b, k4c, k4d⟩ := K4.out.cell
        clear b
        clear d8 d9 d10 d11 d12 d13 d14 d15
        go_wp2_with (at_builtin; refine append_cd_at rfl (.tmp 47) (.tmp 49) rfl w.heap.size _ (midTo x y z t 0) (third x y) _ _ rfl rfl rfl HO.out (by have := HL.out; omega) HB.out.size ?_; intro v1 w6 hO1 hB1 hG1 hA1)
        have hO2 : Own w6 w.heap.size v1 (midTo x y z t 1) := by rw [HS.out]; simpa using hO1
        have hA2 : ∀ q, v1.ownBlock = some q → q ≠ G := fun q hq => by
          rcases hA1 with e | e
          · exact HA.out q (e.symm.trans hq)
          · rw [e] at hq; injection hq with hq; have := HR.out.lt; omega
        have hR2 := VB.marked HR.out hG1 (fun e => HA.out G e rfl)
        clear hO1 hA1
        go_roundw
        case rel => exact ⟨1, by omega, by go_num, hO2, HB.out.trans hB1, hR2, hA2⟩
        case measure => simp [intOf]
    · have he := eq_run (third x z) (third y t) (third_ok _ _) (third_ok _ _)
      have HS := Lib.hid (show midTo x y z t 2 = midTo x y z t 1 ++ (if same (third x z) (third y t) = true then [third x z] else []) by simp [midTo, mids])
      have HL := Lib.hid (midTo_len x y z t 1)
      have HG : Hid (wr.rangeAt G 16 (four x z y t).toList) := Lib.hid (Rd.range1 (Rd.of_block HR.out (by simp)))
      have KQ : Hid (VB (wr.alloc (.cells z16 59)) wr.heap.size 59 z16) := Lib.hid (VB.newAt rfl rfl)
      have HB1 := Lib.hid (HB.out.alloc HB.out.size (.cells z16 59))
      have HO1 := Lib.hid (Own.alloc HO.out (.cells z16 59))
      have HS1 := Lib.hid (show (four x z y t).size = 16 from rfl)
      have HS2 := Lib.hid (four_one x z y t)
      obtain ⟨cs, hcs⟩ : ∃ cs, four x z y t = cs := ⟨_, rfl⟩
      have HCs := Lib.hid hcs
      rw [hcs] at HG HS1 HS2
      clear hcs
      go_upto_region 5 with (first | ((with_reducible refine take4 rfl _ rfl HG.out HS1.out ?_ ?_); rfl) | ((with_reducible refine store4 rfl _ _ rfl KQ.out ?_ cs HS1.out HS2.out ?_ ?_); rfl; rfl; intro w2 hV hG2))
      have b : Below wr.heap.size wr w2 := Below.grown ((Below.refl _ _).alloc (Nat.le_refl _) _) hG2 (by simp) (fun k hk => by injection hk with hk; omega)
      have Sw2 := Lib.hid b.size
      have HB := Lib.hid (chain0 (w := w) (by repeat (first | with_reducible exact Below.refl _ _ | with_reducible exact HB.out | with_reducible apply Below.drew | with_reducible apply bdN | with_reducible refine Below.alloc ?_ (by first | exact Nat.le_refl _ | with_reducible exact HB.out.size | omega | (simp; done) | (simp; omega) | (have := HB.out.size; simp at *; omega)) _ | with_reducible refine Below.setCell ?_ (by first | exact Nat.le_refl _ | with_reducible exact HB.out.size | omega | (simp; done) | (simp; omega) | (have := HB.out.size; simp at *; omega)) _)) b)
      have HO := Lib.hid (Own.below (by repeat (first | with_reducible exact HO.out | with_reducible apply Own.drewN | with_reducible apply Own.drew | with_reducible apply Own.alloc)) b)
      have HR := Lib.hid (VB.below (by repeat (first | with_reducible exact HR.out | with_reducible apply VB.drewN | with_reducible apply VB.drew | with_reducible apply VB.alloc)) b)
      clear b
      rw [← HCs.out] at hV
      have KV := Lib.hid hV
      clear hV hG2 HB1 HO1 KQ HG HS1 HS2 HCs
      obtain ⟨g2, hg2⟩ : ∃ g2, wr.heap.size = g2 := ⟨_, rfl⟩
      rw [hg2] at KV
      try rw [hg2]
      clear hg2
      have d0 := VB.at_ KV.out (j := 0) rfl
      have d1 := VB.at_ KV.out (j := 1) rfl
      have d2 := VB.at_ KV.out (j := 2) rfl
      have d3 := VB.at_ KV.out (j := 3) rfl
      have d4 := VB.at_ KV.out (j := 4) rfl
      have d5 := VB.at_ KV.out (j := 5) rfl
      have d6 := VB.at_ KV.out (j := 6) rfl
      have d7 := VB.at_ KV.out (j := 7) rfl
      go_wp2_with fail
      refine ((third_of x z _ HXx.out HXz.out)).mono ?_
      rintro e w3 ⟨rfl, b⟩
      have Sw3 := Lib.hid b.size
      have HB := Lib.hid (chain0 (w := w) (by repeat (first | with_reducible exact Below.refl _ _ | with_reducible exact HB.out | with_reducible apply Below.drew | with_reducible apply bdN | with_reducible refine Below.alloc ?_ (by first | exact Nat.le_refl _ | with_reducible exact HB.out.size | omega | (simp; done) | (simp; omega) | (have := HB.out.size; simp at *; omega)) _ | with_reducible refine Below.setCell ?_ (by first | exact Nat.le_refl _ | with_reducible exact HB.out.size | omega | (simp; done) | (simp; omega) | (have := HB.out.size; simp at *; omega)) _)) b)
      have HO := Lib.hid (Own.below (by repeat (first | with_reducible exact HO.out | with_reducible apply Own.drewN | with_reducible apply Own.drew | with_reducible apply Own.alloc)) b)
      have HR := Lib.hid (VB.below (by repeat (first | with_reducible exact HR.out | with_reducible apply VB.drewN | with_reducible apply VB.drew | with_reducible apply VB.alloc)) b)
      have KV := Lib.hid (VB.below (by repeat (first | with_reducible exact KV.out | with_reducible apply VB.drewN | with_reducible apply VB.drew | with_reducible apply VB.alloc)) b)
      clear b
      clear d0 d1 d2 d3 d4 d5 d6 d7
      go_upto_region 6 with fail
      obtain ⟨w4, ew, b⟩ : ∃ wOPN : World, wOPN = (w3.alloc (third x z).obj) ∧ Below ((w3.alloc (third x z).obj)).heap.size ((w3.alloc (third x z).obj)) wOPN := ⟨_, rfl, Below.refl _ _⟩
      rw [← ew]
      clear ew
      have Sw4 := Lib.hid b.size
      have HB := Lib.hid (chain0 (w := w) (by repeat (first | with_reducible exact Below.refl _ _ | with_reducible exact HB.out | with_reducible apply Below.drew | with_reducible apply bdN | with_reducible refine Below.alloc ?_ (by first | exact Nat.le_refl _ | with_reducible exact HB.out.size | omega | (simp; done) | (simp; omega) | (have := HB.out.size; simp at *; omega)) _ | with_reducible refine Below.setCell ?_ (by first | exact Nat.le_refl _ | with_reducible exact HB.out.size | omega | (simp; done) | (simp; omega) | (have := HB.out.size; simp at *; omega)) _)) b)
      have HO := Lib.hid (Own.below (by repeat (first | with_reducible exact HO.out | with_reducible apply Own.drewN | with_reducible apply Own.drew | with_reducible apply Own.alloc)) b)
      have HR := Lib.hid (VB.below (by repeat (first | with_reducible exact HR.out | with_reducible apply VB.drewN | with_reducible apply VB.drew | with_reducible apply VB.alloc)) b)
      have KV := Lib.hid (VB.below (by repeat (first | with_reducible exact KV.out | with_reducible apply VB.drewN | with_reducible apply VB.drew | with_reducible apply VB.alloc)) b)
      have K4 : Hid (Box _ (w3.heap.size) ((third x z))) := Lib.hid (Box.below (by repeat (first | with_reducible exact K4.out | with_reducible apply Box.drewN | with_reducible apply Box.drew | (with_reducible refine Box.newAt ?_ ?_ <;> first | (simp; done) | rfl) | with_reducible apply Box.alloc)) b)
      try clear k4a k4b k4c k4d k4z
      have k4z := K4.out.lt
      obtain ⟨k4a, k4b, k4c, k4d⟩ := K4.out.cell
      clear b
      have d8 := VB.at_ KV.out (j := 8) rfl
      have d9 := VB.at_ KV.out (j := 9) rfl
      have d10 := VB.at_ KV.out (j := 10) rfl
      have d11 := VB.at_ KV.out (j := 11) rfl
      have d12 := VB.at_ KV.out (j := 12) rfl
      have d13 := VB.at_ KV.out (j := 13) rfl
      have d14 := VB.at_ KV.out (j := 14) rfl
      have d15 := VB.at_ KV.out (j := 15) rfl
      cases hq : same (third x z) (third y t)
      · rw [hq] at he HS
        clear hq
        have qk4a := fun d os => cell_regrown k4a d os
        have qk4b := fun d os => cell_regrown k4b d os
        have qk4c := fun d os => cell_regrown k4c d os
        have qk4d := fun d os => cell_regrown k4d d os
        have qd8 := fun d os => cell_regrown d8 d os
        have qd9 := fun d os => cell_regrown d9 d os
        have qd10 := fun d os => cell_regrown d10 d os
        have qd11 := fun d os => cell_regrown d11 d os
        have qd12 := fun d os => cell_regrown d12 d os
        have qd13 := fun d os => cell_regrown d13 d os
        have qd14 := fun d os => cell_regrown d14 d os
        have qd15 := fun d os => cell_regrown d15 d os
        refine wp_region_quiet_below (by kernel_rfl) (by kernel_rfl) ?_
        repeat (first | go_big_quiet_step ((go_at_call 88; with_reducible exact Calls.regrown_of (third_of _ _ _ HXy.out HXt.out))) | quiet_step ((go_at_call 88; with_reducible exact Calls.regrown_of (third_of _ _ _ HXy.out HXt.out))))
        refine wpQuiet_nil ?_
        intro w5 hw2
        have b : Below w4.heap.size w4 w5 := by obtain ⟨r, hr⟩ := hw2; rw [hr]; exact below_regrown _ _ _
        clear hw2 qd8 qd9 qd10 qd11 qd12 qd13 qd14 qd15 qk4a qk4b qk4c qk4d
        have Sw5 := Lib.hid b.size
        have HB := Lib.hid (chain0 (w := w) (by repeat (first | with_reducible exact Below.refl _ _ | with_reducible exact HB.out | with_reducible apply Below.drew | with_reducible apply bdN | with_reducible refine Below.alloc ?_ (by first | exact Nat.le_refl _ | with_reducible exact HB.out.size | omega | (simp; done) | (simp; omega) | (have := HB.out.size; simp at *; omega)) _ | with_reducible refine Below.setCell ?_ (by first | exact Nat.le_refl _ | with_reducible exact HB.out.size | omega | (simp; done) | (simp; omega) | (have := HB.out.size; simp at *; omega)) _)) b)
        have HO := Lib.hid (Own.below (by repeat (first | with_reducible exact HO.out | with_reducible apply Own.drewN | with_reducible apply Own.drew | with_reducible apply Own.alloc)) b)
        have HR := Lib.hid (VB.below (by repeat (first | with_reducible exact HR.out | with_reducible apply VB.drewN | with_reducible apply VB.drew | with_reducible apply VB.alloc)) b)
        have KV := Lib.hid (VB.below (by repeat (first | with_reducible exact KV.out | with_reducible apply VB.drewN | with_reducible apply VB.drew | with_reducible apply VB.alloc)) b)
        have K4 : Hid (Box _ (w3.heap.size) ((third x z))) := Lib.hid (Box.below (by repeat (first | with_reducible exact K4.out | with_reducible apply Box.drewN | with_reducible apply Box.drew | (with_reducible refine Box.newAt ?_ ?_ <;> first | (simp; done) | rfl) | with_reducible apply Box.alloc)) b)
        try clear k4a k4b k4c k4d k4z
        have k4z := K4.out.lt
        obtain ⟨k4a, k4b, k4c, k4d⟩ := K4.out.cell
        clear b
        clear d8 d9 d10 d11 d12 d13 d14 d15
        go_wp2_with fail
        go_roundw
        case rel => exact ⟨2, by omega, by go_num, by rw [HS.out]; simpa using HO, HB, HR, HA⟩
        case measure => simp [intOf]
      · rw [hq] at he HS
        clear hq
        have qk4a := fun d os => cell_regrown k4a d os
        have qk4b := fun d os => cell_regrown k4b d os
        have qk4c := fun d os => cell_regrown k4c d os
        have qk4d := fun d os => cell_regrown k4d d os
        have qd8 := fun d os => cell_regrown d8 d os
        have qd9 := fun d os => cell_regrown d9 d os
        have qd10 := fun d os => cell_regrown d10 d os
        have qd11 := fun d os => cell_regrown d11 d os
        have qd12 := fun d os => cell_regrown d12 d os
        have qd13 := fun d os => cell_regrown d13 d os
        have qd14 := fun d os => cell_regrown d14 d os
        have qd15 := fun d os => cell_regrown d15 d os
        refine wp_region_quiet_below (by kernel_rfl) (by kernel_rfl) ?_
        repeat (first | go_big_quiet_step ((go_at_call 88; with_reducible exact Calls.regrown_of (third_of _ _ _ HXy.out HXt.out))) | quiet_step ((go_at_call 88; with_reducible exact Calls.regrown_of (third_of _ _ _ HXy.out HXt.out))))
        refine wpQuiet_nil ?_
        intro w5 hw2
        have b : Below w4.heap.size w4 w5 := by obtain ⟨r, hr⟩ := hw2; rw [hr]; exact below_regrown _ _ _
        clear hw2 qd8 qd9 qd10 qd11 qd12 qd13 qd14 qd15 qk4a qk4b qk4c qk4d
        have Sw5 := Lib.hid b.size
        have HB := Lib.hid (chain0 (w := w) (by repeat (first | with_reducible exact Below.refl _ _ | with_reducible exact HB.out | with_reducible apply Below.drew | with_reducible apply bdN | with_reducible refine Below.alloc ?_ (by first | exact Nat.le_refl _ | with_reducible exact HB.out.size | omega | (simp; done) | (simp; omega) | (have := HB.out.size; simp at *; omega)) _ | with_reducible refine Below.setCell ?_ (by first | exact Nat.le_refl _ | with_reducible exact HB.out.size | omega | (simp; done) | (simp; omega) | (have := HB.out.size; simp at *; omega)) _)) b)
        have HO := Lib.hid (Own.below (by repeat (first | with_reducible exact HO.out | with_reducible apply Own.drewN | with_reducible apply Own.drew | with_reducible apply Own.alloc)) b)
        have HR := Lib.hid (VB.below (by repeat (first | with_reducible exact HR.out | with_reducible apply VB.drewN | with_reducible apply VB.drew | with_reducible apply VB.alloc)) b)
        have KV := Lib.hid (VB.below (by repeat (first | with_reducible exact KV.out | with_reducible apply VB.drewN | with_reducible apply VB.drew | with_reducible apply VB.alloc)) b)
        have K4 : Hid (Box _ (w3.heap.size) ((third x z))) := Lib.hid (Box.below (by repeat (first | with_reducible exact K4.out | with_reducible apply Box.drewN | with_reducible apply Box.drew | (with_reducible refine Box.newAt ?_ ?_ <;> first | (simp; done) | rfl) | with_reducible apply Box.alloc)) b)
        try clear k4a k4b k4c k4d k4z
        have k4z := K4.out.lt
        obtain ⟨k4a, k4b, k4c, k4d⟩ := K4.out.cell
        clear b
        clear d8 d9 d10 d11 d12 d13 d14 d15
        go_wp2_with (at_builtin; refine append_cd_at rfl (.tmp 47) (.tmp 49) rfl w.heap.size _ (midTo x y z t 1) (third x z) _ _ rfl rfl rfl HO.out (by have := HL.out; omega) HB.out.size ?_; intro v1 w6 hO1 hB1 hG1 hA1)
        have hO2 : Own w6 w.heap.size v1 (midTo x y z t 2) := by rw [HS.out]; simpa using hO1
        have hA2 : ∀ q, v1.ownBlock = some q → q ≠ G := fun q hq => by
          rcases hA1 with e | e
          · exact HA.out q (e.symm.trans hq)
          · rw [e] at hq; injection hq with hq; have := HR.out.lt; omega
        have hR2 := VB.marked HR.out hG1 (fun e => HA.out G e rfl)
        clear hO1 hA1
        go_roundw
        case rel => exact ⟨2, by omega, by go_num, hO2, HB.out.trans hB1, hR2, hA2⟩
        case measure => simp [intOf]
    · have he := eq_run (third x t) (third y z) (third_ok _ _) (third_ok _ _)
      have HS := Lib.hid (show midTo x y z t 3 = midTo x y z t 2 ++ (if same (third x t) (third y z) = true then [third x t] else []) by simp [midTo, mids])
      have HL := Lib.hid (midTo_len x y z t 2)
      have HG : Hid (wr.rangeAt G 32 (four x t y z).toList) := Lib.hid (Rd.range2 (Rd.of_block HR.out (by simp)))
      have KQ : Hid (VB (wr.alloc (.cells z16 59)) wr.heap.size 59 z16) := Lib.hid (VB.newAt rfl rfl)
      have HB1 := Lib.hid (HB.out.alloc HB.out.size (.cells z16 59))
      have HO1 := Lib.hid (Own.alloc HO.out (.cells z16 59))
      have HS1 := Lib.hid (show (four x t y z).size = 16 from rfl)
      have HS2 := Lib.hid (four_one x t y z)
      obtain ⟨cs, hcs⟩ : ∃ cs, four x t y z = cs := ⟨_, rfl⟩
      have HCs := Lib.hid hcs
      rw [hcs] at HG HS1 HS2
      clear hcs
      go_upto_region 5 with (first | ((with_reducible refine take4 rfl _ rfl HG.out HS1.out ?_ ?_); rfl) | ((with_reducible refine store4 rfl _ _ rfl KQ.out ?_ cs HS1.out HS2.out ?_ ?_); rfl; rfl; intro w2 hV hG2))
      have b : Below wr.heap.size wr w2 := Below.grown ((Below.refl _ _).alloc (Nat.le_refl _) _) hG2 (by simp) (fun k hk => by injection hk with hk; omega)
      have Sw2 := Lib.hid b.size
      have HB := Lib.hid (chain0 (w := w) (by repeat (first | with_reducible exact Below.refl _ _ | with_reducible exact HB.out | with_reducible apply Below.drew | with_reducible apply bdN | with_reducible refine Below.alloc ?_ (by first | exact Nat.le_refl _ | with_reducible exact HB.out.size | omega | (simp; done) | (simp; omega) | (have := HB.out.size; simp at *; omega)) _ | with_reducible refine Below.setCell ?_ (by first | exact Nat.le_refl _ | with_reducible exact HB.out.size | omega | (simp; done) | (simp; omega) | (have := HB.out.size; simp at *; omega)) _)) b)
      have HO := Lib.hid (Own.below (by repeat (first | with_reducible exact HO.out | with_reducible apply Own.drewN | with_reducible apply Own.drew | with_reducible apply Own.alloc)) b)
      have HR := Lib.hid (VB.below (by repeat (first | with_reducible exact HR.out | with_reducible apply VB.drewN | with_reducible apply VB.drew | with_reducible apply VB.alloc)) b)
      clear b
      rw [← HCs.out] at hV
      have KV := Lib.hid hV
      clear hV hG2 HB1 HO1 KQ HG HS1 HS2 HCs
      obtain ⟨g2, hg2⟩ : ∃ g2, wr.heap.size = g2 := ⟨_, rfl⟩
      rw [hg2] at KV
      try rw [hg2]
      clear hg2
      have d0 := VB.at_ KV.out (j := 0) rfl
      have d1 := VB.at_ KV.out (j := 1) rfl
      have d2 := VB.at_ KV.out (j := 2) rfl
      have d3 := VB.at_ KV.out (j := 3) rfl
      have d4 := VB.at_ KV.out (j := 4) rfl
      have d5 := VB.at_ KV.out (j := 5) rfl
      have d6 := VB.at_ KV.out (j := 6) rfl
      have d7 := VB.at_ KV.out (j := 7) rfl
      go_wp2_with fail
      refine ((third_of x t _ HXx.out HXt.out)).mono ?_
      rintro e w3 ⟨rfl, b⟩
      have Sw3 := Lib.hid b.size
      have HB := Lib.hid (chain0 (w := w) (by repeat (first | with_reducible exact Below.refl _ _ | with_reducible exact HB.out | with_reducible apply Below.drew | with_reducible apply bdN | with_reducible refine Below.alloc ?_ (by first | exact Nat.le_refl _ | with_reducible exact HB.out.size | omega | (simp; done) | (simp; omega) | (have := HB.out.size; simp at *; omega)) _ | with_reducible refine Below.setCell ?_ (by first | exact Nat.le_refl _ | with_reducible exact HB.out.size | omega | (simp; done) | (simp; omega) | (have := HB.out.size; simp at *; omega)) _)) b)
      have HO := Lib.hid (Own.below (by repeat (first | with_reducible exact HO.out | with_reducible apply Own.drewN | with_reducible apply Own.drew | with_reducible apply Own.alloc)) b)
      have HR := Lib.hid (VB.below (by repeat (first | with_reducible exact HR.out | with_reducible apply VB.drewN | with_reducible apply VB.drew | with_reducible apply VB.alloc)) b)
      have KV := Lib.hid (VB.below (by repeat (first | with_reducible exact KV.out | with_reducible apply VB.drewN | with_reducible apply VB.drew | with_reducible apply VB.alloc)) b)
      clear b
      clear d0 d1 d2 d3 d4 d5 d6 d7
      go_upto_region 6 with fail
      obtain ⟨w4, ew, b⟩ : ∃ wOPN : World, wOPN = (w3.alloc (third x t).obj) ∧ Below ((w3.alloc (third x t).obj)).heap.size ((w3.alloc (third x t).obj)) wOPN := ⟨_, rfl, Below.refl _ _⟩
      rw [← ew]
      clear ew
      have Sw4 := Lib.hid b.size
      have HB := Lib.hid (chain0 (w := w) (by repeat (first | with_reducible exact Below.refl _ _ | with_reducible exact HB.out | with_reducible apply Below.drew | with_reducible apply bdN | with_reducible refine Below.alloc ?_ (by first | exact Nat.le_refl _ | with_reducible exact HB.out.size | omega | (simp; done) | (simp; omega) | (have := HB.out.size; simp at *; omega)) _ | with_reducible refine Below.setCell ?_ (by first | exact Nat.le_refl _ | with_reducible exact HB.out.size | omega | (simp; done) | (simp; omega) | (have := HB.out.size; simp at *; omega)) _)) b)
      have HO := Lib.hid (Own.below (by repeat (first | with_reducible exact HO.out | with_reducible apply Own.drewN | with_reducible apply Own.drew | with_reducible apply Own.alloc)) b)
      have HR := Lib.hid (VB.below (by repeat (first | with_reducible exact HR.out | with_reducible apply VB.drewN | with_reducible apply VB.drew | with_reducible apply VB.alloc)) b)
      have KV := Lib.hid (VB.below (by repeat (first | with_reducible exact KV.out | with_reducible apply VB.drewN | with_reducible apply VB.drew | with_reducible apply VB.alloc)) b)
      have K4 : Hid (Box _ (w3.heap.size) ((third x t))) := Lib.hid (Box.below (by repeat (first | with_reducible exact K4.out | with_reducible apply Box.drewN | with_reducible apply Box.drew | (with_reducible refine Box.newAt ?_ ?_ <;> first | (simp; done) | rfl) | with_reducible apply Box.alloc)) b)
      try clear k4a k4b k4c k4d k4z
      have k4z := K4.out.lt
      obtain ⟨k4a, k4b, k4c, k4d⟩ := K4.out.cell
      clear b
      have d8 := VB.at_ KV.out (j := 8) rfl
      have d9 := VB.at_ KV.out (j := 9) rfl
      have d10 := VB.at_ KV.out (j := 10) rfl
      have d11 := VB.at_ KV.out (j := 11) rfl
      have d12 := VB.at_ KV.out (j := 12) rfl
      have d13 := VB.at_ KV.out (j := 13) rfl
      have d14 := VB.at_ KV.out (j := 14) rfl
      have d15 := VB.at_ KV.out (j := 15) rfl
      cases hq : same (third x t) (third y z)
      · rw [hq] at he HS
        clear hq
        have qk4a := fun d os => cell_regrown k4a d os
        have qk4b := fun d os => cell_regrown k4b d os
        have qk4c := fun d os => cell_regrown k4c d os
        have qk4d := fun d os => cell_regrown k4d d os
        have qd8 := fun d os => cell_regrown d8 d os
        have qd9 := fun d os => cell_regrown d9 d os
        have qd10 := fun d os => cell_regrown d10 d os
        have qd11 := fun d os => cell_regrown d11 d os
        have qd12 := fun d os => cell_regrown d12 d os
        have qd13 := fun d os => cell_regrown d13 d os
        have qd14 := fun d os => cell_regrown d14 d os
        have qd15 := fun d os => cell_regrown d15 d os
        refine wp_region_quiet_below (by kernel_rfl) (by kernel_rfl) ?_
        repeat (first | go_big_quiet_step ((go_at_call 88; with_reducible exact Calls.regrown_of (third_of _ _ _ HXy.out HXz.out))) | quiet_step ((go_at_call 88; with_reducible exact Calls.regrown_of (third_of _ _ _ HXy.out HXz.out))))
        refine wpQuiet_nil ?_
        intro w5 hw2
        have b : Below w4.heap.size w4 w5 := by obtain ⟨r, hr⟩ := hw2; rw [hr]; exact below_regrown _ _ _
        clear hw2 qd8 qd9 qd10 qd11 qd12 qd13 qd14 qd15 qk4a qk4b qk4c qk4d
        have Sw5 := Lib.hid b.size
        have HB := Lib.hid (chain0 (w := w) (by repeat (first | with_reducible exact Below.refl _ _ | with_reducible exact HB.out | with_reducible apply Below.drew | with_reducible apply bdN | with_reducible refine Below.alloc ?_ (by first | exact Nat.le_refl _ | with_reducible exact HB.out.size | omega | (simp; done) | (simp; omega) | (have := HB.out.size; simp at *; omega)) _ | with_reducible refine Below.setCell ?_ (by first | exact Nat.le_refl _ | with_reducible exact HB.out.size | omega | (simp; done) | (simp; omega) | (have := HB.out.size; simp at *; omega)) _)) b)
        have HO := Lib.hid (Own.below (by repeat (first | with_reducible exact HO.out | with_reducible apply Own.drewN | with_reducible apply Own.drew | with_reducible apply Own.alloc)) b)
        have HR := Lib.hid (VB.below (by repeat (first | with_reducible exact HR.out | with_reducible apply VB.drewN | with_reducible apply VB.drew | with_reducible apply VB.alloc)) b)
        have KV := Lib.hid (VB.below (by repeat (first | with_reducible exact KV.out | with_reducible apply VB.drewN | with_reducible apply VB.drew | with_reducible apply VB.alloc)) b)
        have K4 : Hid (Box _ (w3.heap.size) ((third x t))) := Lib.hid (Box.below (by repeat (first | with_reducible exact K4.out | with_reducible apply Box.drewN | with_reducible apply Box.drew | (with_reducible refine Box.newAt ?_ ?_ <;> first | (simp; done) | rfl) | with_reducible apply Box.alloc)) b)
        try clear k4a k4b k4c k4d k4z
        have k4z := K4.out.lt
        obtain ⟨k4a, k4b, k4c, k4d⟩ := K4.out.cell
        clear b
        clear d8 d9 d10 d11 d12 d13 d14 d15
        go_wp2_with fail
        go_roundw
        case rel => exact ⟨3, by omega, by go_num, by rw [HS.out]; simpa using HO, HB, HR, HA⟩
        case measure => simp [intOf]
      · rw [hq] at he HS
        clear hq
        have qk4a := fun d os => cell_regrown k4a d os
        have qk4b := fun d os => cell_regrown k4b d os
        have qk4c := fun d os => cell_regrown k4c d os
        have qk4d := fun d os => cell_regrown k4d d os
        have qd8 := fun d os => cell_regrown d8 d os
        have qd9 := fun d os => cell_regrown d9 d os
        have qd10 := fun d os => cell_regrown d10 d os
        have qd11 := fun d os => cell_regrown d11 d os
        have qd12 := fun d os => cell_regrown d12 d os
        have qd13 := fun d os => cell_regrown d13 d os
        have qd14 := fun d os => cell_regrown d14 d os
        have qd15 := fun d os => cell_regrown d15 d os
        refine wp_region_quiet_below (by kernel_rfl) (by kernel_rfl) ?_
        repeat (first | go_big_quiet_step ((go_at_call 88; with_reducible exact Calls.regrown_of (third_of _ _ _ HXy.out HXz.out))) | quiet_step ((go_at_call 88; with_reducible exact Calls.regrown_of (third_of _ _ _ HXy.out HXz.out))))
        refine wpQuiet_nil ?_
        intro w5 hw2
        have b : Below w4.heap.size w4 w5 := by obtain ⟨r, hr⟩ := hw2; rw [hr]; exact below_regrown _ _ _
        clear hw2 qd8 qd9 qd10 qd11 qd12 qd13 qd14 qd15 qk4a qk4b qk4c qk4d
        have Sw5 := Lib.hid b.size
        have HB := Lib.hid (chain0 (w := w) (by repeat (first | with_reducible exact Below.refl _ _ | with_reducible exact HB.out | with_reducible apply Below.drew | with_reducible apply bdN | with_reducible refine Below.alloc ?_ (by first | exact Nat.le_refl _ | with_reducible exact HB.out.size | omega | (simp; done) | (simp; omega) | (have := HB.out.size; simp at *; omega)) _ | with_reducible refine Below.setCell ?_ (by first | exact Nat.le_refl _ | with_reducible exact HB.out.size | omega | (simp; done) | (simp; omega) | (have := HB.out.size; simp at *; omega)) _)) b)
        have HO := Lib.hid (Own.below (by repeat (first | with_reducible exact HO.out | with_reducible apply Own.drewN | with_reducible apply Own.drew | with_reducible apply Own.alloc)) b)
        have HR := Lib.hid (VB.below (by repeat (first | with_reducible exact HR.out | with_reducible apply VB.drewN | with_reducible apply VB.drew | with_reducible apply VB.alloc)) b)
        have KV := Lib.hid (VB.below (by repeat (first | with_reducible exact KV.out | with_reducible apply VB.drewN | with_reducible apply VB.drew | with_reducible apply VB.alloc)) b)
        have K4 : Hid (Box _ (w3.heap.size) ((third x t))) := Lib.hid (Box.below (by repeat (first | with_reducible exact K4.out | with_reducible apply Box.drewN | with_reducible apply Box.drew | (with_reducible refine Box.newAt ?_ ?_ <;> first | (simp; done) | rfl) | with_reducible apply Box.alloc)) b)
        try clear k4a k4b k4c k4d k4z
        have k4z := K4.out.lt
        obtain ⟨k4a, k4b, k4c, k4d⟩ := K4.out.cell
        clear b
        clear d8 d9 d10 d11 d12 d13 d14 d15
        go_wp2_with (at_builtin; refine append_cd_at rfl (.tmp 47) (.tmp 49) rfl w.heap.size _ (midTo x y z t 2) (third x t) _ _ rfl rfl rfl HO.out (by have := HL.out; omega) HB.out.size ?_; intro v1 w6 hO1 hB1 hG1 hA1)
        have hO2 : Own w6 w.heap.size v1 (midTo x y z t 3) := by rw [HS.out]; simpa using hO1
        have hA2 : ∀ q, v1.ownBlock = some q → q ≠ G := fun q hq => by
          rcases hA1 with e | e
          · exact HA.out q (e.symm.trans hq)
          · rw [e] at hq; injection hq with hq; have := HR.out.lt; omega
        have hR2 := VB.marked HR.out hG1 (fun e => HA.out G e rfl)
        clear hO1 hA1
        go_roundw
        case rel => exact ⟨3, by omega, by go_num, hO2, HB.out.trans hB1, hR2, hA2⟩
        case measure => simp [intOf]
    · go_wp2_with fail
      go_ret
      exact ⟨_, rfl, HO.out, HB.out⟩
end Go.Proofs.Ytjmlefcmhjodeaa.others
