/- DeckParting: the program's walk. -/
import Derived.Test.YtfbcjcfhdclklaaA1
import Derived.Test.YtfbcjcfhdclklaaA3
import Derived.Laws.Cover3
namespace Go.Proofs.Ytfbcjcfhdclklaa.parting
open Go.RowKit
open cards
open maps (store_map take_map MBox)
set_option linter.unusedVariables false

theorem l7_same_orb {x c : Cd} {M : maps.Mp} {y z : Cd} {k m : Int} (hM : maps.shTo zero c 4 = M) (hx : x.ok = true) (hc : c.ok = true) (hz : same c zero = false) (hy : plus x c = y) (h : plus y c = z) (hk : num y = k) (hm : num z = m) : maps.orbR M x = ([num x, k, m], true) := by
  rw [← hM, orb_shift hx hc hz, hy, h, hk, hm]
theorem ownI_three {w : World} {B : Nat} {v : Value} {a b c : Int} (h : OwnI w B v [a, b, c]) : ∃ g cu, v = .slice (some ⟨g, 0, none⟩) 3 cu ∧ 3 ≤ cu ∧ B ≤ g ∧ g < w.heap.size ∧ w.cell? ⟨g, 0, none⟩ = some (.int .i64 a) ∧ w.cell? ⟨g, 1, none⟩ = some (.int .i64 b) ∧ w.cell? ⟨g, 2, none⟩ = some (.int .i64 c) := by
  obtain ⟨p, cu, rfl, hc, _, hp⟩ := h.form
  obtain ⟨g, rfl, h1, h2, _⟩ := hp (by simp)
  refine ⟨g, cu, rfl, hc, h1, h2, ?_, ?_, ?_⟩
  · exact World.ownsRow.cellAt h 0 (by simp)
  · exact World.ownsRow.cellAt h 1 (by simp)
  · exact World.ownsRow.cellAt h 2 (by simp)
theorem sort3 (a k m : Int) (h1 : a ≠ k) (h2 : a ≠ m) (h3 : k ≠ m) (g cap B : Nat) (w : World) (hO : OwnI w B (.slice (some ⟨g, 0, none⟩) 3 cap) [a, k, m]) :
    Calls Try.prog 81 #[.slice (some ⟨g, 0, none⟩) 3 cap] w fun e w' => e = .returned (.tuple #[]) ∧ ∃ p q s : Int, (p = a ↔ a < k ∧ a < m) ∧ (a < k ∧ a < m → q = lo2 k m ∧ s = hi2 k m) ∧ w.grownBy w' (some g) ∧
      w'.cell? ⟨g, 0, none⟩ = some (.int .i64 p) ∧ w'.cell? ⟨g, 1, none⟩ = some (.int .i64 q) ∧ w'.cell? ⟨g, 2, none⟩ = some (.int .i64 s) := by
  refine (sort_ints [a, k, m] g cap B w (by simp) hO).mono ?_
  rintro e w' ⟨rfl, l', hp, hs, ho, hG⟩
  obtain ⟨p, q, s, rfl, e1, e2⟩ := srt3 hp hs h1 h2 h3
  obtain ⟨g', cu, hv, _, _, _, c0, c1, c2⟩ := ownI_three ho
  injection hv with hv
  injection hv with hv
  injection hv with hv
  subst hv
  exact ⟨rfl, p, q, s, e1, e2, hG, c0, c1, c2⟩
theorem orb_call {M : maps.Mp} {x : Cd} {a k m : Int} (h : maps.orbR M x = ([a, k, m], true)) (w : World) :
    Calls Try.prog 79 #[M.val, x.val] w fun e w' => ∃ u, e = .returned (.tuple #[u, .bool true]) ∧ OwnI w' w.heap.size u [a, k, m] ∧ Below w.heap.size w w' := by
  have := maps.impl_orb M x w
  rw [h] at this
  exact this
theorem cdAt_num7 {n : Int} (h0 : 0 ≤ n) (h1 : n ≤ 80) : num (cdAt n) = n := by
  unfold num cdAt; simp only; omega
theorem ownA3_kept {w w1 : World} {B g : Nat} {v : Value} {l : List A3} (h : OwnA3 w B v l) (hG : w.grownBy w1 (some g)) (hn : ∀ b, v.ownBlock = some b → b ≠ g) : OwnA3 w1 B v l :=
  World.ownsRow.kept h hG (by
    cases hv : v.ownBlock with
    | none => exact .inl rfl
    | some b => exact .inr (fun e => hn b hv (by simpa using e)))
theorem mbox_past {w w1 : World} {g : Nat} {x : maps.Mv} {u : Value} (h : MBox w g x) (hg : w.grownBy w1 u.ownBlock) (ha : ∀ k, u.ownBlock = some k → k ≠ g) : MBox w1 g x :=
  (hg.block g h.lt (fun e => ha g e.symm rfl)).trans h
theorem sh_call {c : Cd} {M : maps.Mp} {b : Bool} (h : maps.shR zero c = (M, b)) (w : World) :
    Calls Try.prog 78 #[zero.val, c.val] w fun e w' => e = .returned (.tuple #[M.val, .bool b]) ∧ Below w.heap.size w w' := by
  have := maps.impl_sh zero c w
  rw [h] at this
  exact this
theorem nums_ne {x c y z : Cd} {k m : Int} (hx : x.ok = true) (hc : c.ok = true) (hz : same c zero = false) (hy : plus x c = y) (h : plus y c = z) (hk : num y = k) (hm : num z = m) : num x ≠ k ∧ num x ≠ m ∧ k ≠ m := by
  obtain ⟨n1, n2, n3⟩ := plus_ne hx hc hz
  subst hy; subst h; subst hk; subst hm
  have o1 := plus_ok x c
  have o2 := plus_ok (plus x c) c
  exact ⟨fun e => n1 (num_inj hx o1 e).symm, fun e => n2 (num_inj hx o2 e).symm, fun e => n3 (num_inj o1 o2 e).symm⟩
theorem sh_no {c : Cd} (h : c.ok = false) : maps.shR zero c = (maps.zeroM, false) := by unfold maps.shR; rw [if_neg (by simp [h])]
theorem sh_yes {c : Cd} (h : c.ok = true) : maps.shR zero c = (maps.shTo zero c 4, true) := by unfold maps.shR; rw [if_pos ⟨by decide, h⟩]
set_option maxRecDepth 100000 in
set_option maxHeartbeats 4000000 in
theorem impl_dp (c : Cd) (w : World) :
    Calls Try.prog 40 #[c.val] w fun e w' => ∃ u, e = .returned (.tuple #[u, .bool (dpR c).2]) ∧ OwnA3 w' w.heap.size u (dpR c).1 ∧ Below w.heap.size w w' := by
  obtain ⟨M, bo, hS⟩ : ∃ M bo, maps.shR zero c = (M, bo) := ⟨_, _, rfl⟩
  have HSh := Lib.hid (sh_call hS)
  have HS := Lib.hid hS
  clear hS
  go_enter Try.func40, Try.ntmps40
  go_upto_region 2 with fail
  go_wp2_with fail
  refine ((HSh.out _)).mono ?_
  rintro e w1 ⟨rfl, b⟩
  have Sw1 := Lib.hid b.size
  have HB := Lib.hid (chain0 (w := w) (by repeat (first | with_reducible exact Below.refl _ _ | with_reducible exact HB.out | with_reducible apply Below.drew | with_reducible apply bdN | with_reducible refine Below.alloc ?_ (by first | exact Nat.le_refl _ | with_reducible exact HB.out.size | omega | (simp; done) | (simp; omega) | (have := HB.out.size; simp at *; omega)) _ | with_reducible refine Below.setCell ?_ (by first | exact Nat.le_refl _ | with_reducible exact HB.out.size | omega | (simp; done) | (simp; omega) | (have := HB.out.size; simp at *; omega)) _)) b)
  have K0 : Hid (Box _ (w.heap.size) (c)) := Lib.hid (Box.below (by repeat (first | with_reducible exact K0.out | with_reducible apply Box.drewN | with_reducible apply Box.drew | (with_reducible refine Box.newAt ?_ ?_ <;> first | (simp; done) | rfl) | with_reducible apply Box.alloc)) b)
  have K1 : Hid (Box _ (w.heap.size + 1) (zero)) := Lib.hid (Box.below (by repeat (first | with_reducible exact K1.out | with_reducible apply Box.drewN | with_reducible apply Box.drew | (with_reducible refine Box.newAt ?_ ?_ <;> first | (simp; done) | rfl) | with_reducible apply Box.alloc)) b)
  try clear k0a k0b k0c k0d k0z
  have k0z := K0.out.lt
  obtain ⟨k0a, k0b, k0c, k0d⟩ := K0.out.cell
  try clear k1a k1b k1c k1d k1z
  have k1z := K1.out.lt
  obtain ⟨k1a, k1b, k1c, k1d⟩ := K1.out.cell
  clear b
  clear HSh
  have K2 : Hid (MBox (w1.alloc (Obj.cells #[.int .i64 0, .int .i64 0, .int .i64 0, .int .i64 0, .int .i64 0, .int .i64 0, .int .i64 0, .int .i64 0, .int .i64 0, .int .i64 0, .int .i64 0, .int .i64 0, .int .i64 0, .int .i64 0, .int .i64 0, .int .i64 0] 86)) w1.heap.size ⟨86, maps.zeroM⟩) := Lib.hid (maps.MBox.newAt rfl rfl)
  have HSz0 := Lib.hid HB.out.size
  have HB0 : Hid (Below w.heap.size w (w1.alloc (Obj.cells #[.int .i64 0, .int .i64 0, .int .i64 0, .int .i64 0, .int .i64 0, .int .i64 0, .int .i64 0, .int .i64 0, .int .i64 0, .int .i64 0, .int .i64 0, .int .i64 0, .int .i64 0, .int .i64 0, .int .i64 0, .int .i64 0] 86))) := Lib.hid (HB.out.alloc HB.out.size _)
  have K0a := Lib.hid (K0.out.alloc (Obj.cells #[.int .i64 0, .int .i64 0, .int .i64 0, .int .i64 0, .int .i64 0, .int .i64 0, .int .i64 0, .int .i64 0, .int .i64 0, .int .i64 0, .int .i64 0, .int .i64 0, .int .i64 0, .int .i64 0, .int .i64 0, .int .i64 0] 86))
  have K1a := Lib.hid (K1.out.alloc (Obj.cells #[.int .i64 0, .int .i64 0, .int .i64 0, .int .i64 0, .int .i64 0, .int .i64 0, .int .i64 0, .int .i64 0, .int .i64 0, .int .i64 0, .int .i64 0, .int .i64 0, .int .i64 0, .int .i64 0, .int .i64 0, .int .i64 0] 86))
  have HZ1 := Lib.hid K1.out.lt
  go_upto_region 3 with ((with_reducible refine store_map rfl _ _ rfl K2.out ?_ M ?_ ?_); rfl; rfl; intro w6 hM hG)
  have HZ := Lib.hid (show w.heap.size + 1 < w1.heap.size from HZ1.out)
  have HB : Hid (Below w.heap.size w w6) := Lib.hid (HB0.out.grown hG HB0.out.size (fun k hk => by injection hk with hk; have := HZ1.out; omega))
  have K0 := Lib.hid (Box.marked K0a.out hG (fun k hk => by injection hk with hk; have := HZ1.out; omega))
  have K1 := Lib.hid (Box.marked K1a.out hG (fun k hk => by injection hk with hk; have := HZ1.out; omega))
  have KM := Lib.hid hM
  obtain ⟨k0a, k0b, k0c, k0d⟩ := K0.out.cell
  obtain ⟨k1a, k1b, k1c, k1d⟩ := K1.out.cell
  have HSz := Lib.hid HB.out.size
  clear K2 HB0 K0a K1a hG hM HZ1 HSz0
  obtain ⟨g, hg⟩ : ∃ g, w1.heap.size = g := ⟨_, rfl⟩
  rw [hg] at KM HZ
  rw [hg]
  clear hg
  cases hok : c.ok
  · have HT := Lib.hid (dpR_no (c := c) (by simp [hok]))
    have hb : bo = false := by have := HS.out; rw [sh_no hok] at this; injection this with _ h; exact h.symm
    subst hb
    clear hok
    go_wp2_with fail
    go_ret2
    exact ⟨_, ret_two (by rw [HT.out]), by rw [HT.out]; exact OwnA3.empty _ _ HB.out.size, by repeat (first | with_reducible exact Below.refl _ _ | with_reducible exact HB.out | with_reducible apply Below.drew | with_reducible apply bdN | with_reducible refine Below.alloc ?_ (by first | exact Nat.le_refl _ | with_reducible exact HB.out.size | omega | (simp; done) | (simp; omega) | (have := HB.out.size; simp at *; omega)) _ | with_reducible refine Below.setCell ?_ (by first | exact Nat.le_refl _ | with_reducible exact HB.out.size | omega | (simp; done) | (simp; omega) | (have := HB.out.size; simp at *; omega)) _)⟩
  · have hb := HS.out
    rw [sh_yes hok] at hb
    injection hb with hb1 hb2
    subst hb2
    have HC := Lib.hid hok
    have HMe := Lib.hid hb1
    clear hb1
    have he := eq_run c zero hok (by decide)
    cases hz : same c zero
    · have HT := Lib.hid (dpR_yes hok hz)
      have HZz := Lib.hid hz
      rw [hz] at he
      clear hz hok
      go_upto_region 5 with fail
      have HO0 := Lib.hid (OwnA3.empty w6 w.heap.size HB.out.size)
      have HBa : Hid (Below w.heap.size w (w6.alloc (.cells #[] 55))) := Lib.hid (HB.out.alloc HB.out.size _)
      have KMa := Lib.hid (KM.out.alloc (.cells #[] 55))
      have HNe0 : Hid (∀ b, (Value.slice (some ⟨w6.heap.size, 0, none⟩) 0 0).ownBlock = some b → b ≠ g) := Lib.hid (fun b hb => by
        have h1 : w6.heap.size = b := by simpa [Value.ownBlock] using hb
        have h2 := KM.out.lt
        omega)
      go_wp2_with fail
      go_loopw [7, 8, 9, 10, 27] (fun v _ _ _ i wr => ∃ n : Nat, n ≤ 81 ∧ i = .int .i64 n ∧ Hid (OwnA3 wr w.heap.size v (dpL c n)) ∧ Hid (Below w.heap.size w wr) ∧ Hid (MBox wr g ⟨86, M⟩) ∧ Hid (∀ b, v.ownBlock = some b → b ≠ g)) (fun _ _ _ _ i _ => 81 - (intOf i).toNat)
      case atStart => exact ⟨0, by omega, rfl, HO0, HBa, KMa, HNe0⟩
      case round =>
        clear HO0 HBa KMa HNe0 HB KM K0 K1 k0a k0b k0c k0d k1a k1b k1c k1d he HSz
        obtain ⟨n, hn, rfl, HO, HB, KM, HNe⟩ := hrel
        have HSz := Lib.hid HB.out.size
        by_cases hlt : n < 81
        · have HX := Lib.hid (cdAt_ok7 (n := (n : Int)) (by omega) (by omega))
          have HNx := Lib.hid (cdAt_num7 (n := (n : Int)) (by omega) (by omega))
          have HAt := Lib.hid (fun w => card_of (n : Int) w (by omega) (by omega))
          have HLn := Lib.hid (dpL_len c n)
          obtain ⟨x, hx⟩ : ∃ x, cdAt (n : Int) = x := ⟨_, rfl⟩
          rw [hx] at HX HAt HNx
          obtain ⟨y, hy⟩ : ∃ y, plus x c = y := ⟨_, rfl⟩
          obtain ⟨z, hz⟩ : ∃ z, plus y c = z := ⟨_, rfl⟩
          obtain ⟨k, hk⟩ : ∃ k, num y = k := ⟨_, rfl⟩
          obtain ⟨m, hm⟩ : ∃ m, num z = m := ⟨_, rfl⟩
          have HOr := orb_call (l7_same_orb HMe.out HX.out HC.out HZz.out hy hz hk hm)
          rw [HNx.out] at HOr
          replace HOr := Lib.hid HOr
          have hd := nums_ne HX.out HC.out HZz.out hy hz hk hm
          rw [HNx.out] at hd
          obtain ⟨d1, d2, d3⟩ := hd
          have HSo := Lib.hid (sort3 (n : Int) k m d1 d2 d3)
          have HKk := Lib.hid (show num (plus (cdAt (n : Int)) c) = k by rw [hx, hy]; exact hk)
          have HMm := Lib.hid (show num (plus (plus (cdAt (n : Int)) c) c) = m by rw [hx, hy, hz]; exact hm)
          clear hx hy hz hk hm d1 d2 d3
          have m0 : (0 : Int) ≤ (n : Int) := by omega
          have m1 : (n : Int) < 81 := by omega
          obtain ⟨kma, kmb, kmc, kmd, kme, kmg, kmh, kmi, kmj, kmk, kml, kmm, kmn, kmo, kmp, kmq⟩ := KM.out.cell
          have kmz := KM.out.lt
          go_upto_region 9 with fail
          go_region_held3 (fun w' => w'.cell? ⟨g, 0, none⟩ = some (.int .i64 M.t.a) ∧ w'.cell? ⟨g, 1, none⟩ = some (.int .i64 M.t.b) ∧ w'.cell? ⟨g, 2, none⟩ = some (.int .i64 M.t.c) ∧ w'.cell? ⟨g, 3, none⟩ = some (.int .i64 M.t.d) ∧ w'.cell? ⟨g, 4, none⟩ = some (.int .i64 M.v0.a) ∧ w'.cell? ⟨g, 5, none⟩ = some (.int .i64 M.v0.b) ∧ w'.cell? ⟨g, 6, none⟩ = some (.int .i64 M.v0.c) ∧ w'.cell? ⟨g, 7, none⟩ = some (.int .i64 M.v1.a) ∧ w'.cell? ⟨g, 8, none⟩ = some (.int .i64 M.v1.b) ∧ w'.cell? ⟨g, 9, none⟩ = some (.int .i64 M.v1.c) ∧ w'.cell? ⟨g, 10, none⟩ = some (.int .i64 M.v2.a) ∧ w'.cell? ⟨g, 11, none⟩ = some (.int .i64 M.v2.b) ∧ w'.cell? ⟨g, 12, none⟩ = some (.int .i64 M.v2.c) ∧ w'.cell? ⟨g, 13, none⟩ = some (.int .i64 M.v3.a) ∧ w'.cell? ⟨g, 14, none⟩ = some (.int .i64 M.v3.b) ∧ w'.cell? ⟨g, 15, none⟩ = some (.int .i64 M.v3.c)) (first | exact ⟨kma, kmb, kmc, kmd, kme, kmg, kmh, kmi, kmj, kmk, kml, kmm, kmn, kmo, kmp, kmq⟩ | go_keep) (first
            | (go_at_call 80; refine (HAt.out _).mono ?_; rintro e wq ⟨rfl, b⟩; have HB := Lib.hid (chain0 (w := w) (by repeat (first | with_reducible exact Below.refl _ _ | with_reducible exact HB.out | with_reducible apply Below.drew | with_reducible apply bdN | with_reducible refine Below.alloc ?_ (by first | exact Nat.le_refl _ | with_reducible exact HB.out.size | omega | (simp; done) | (simp; omega) | (have := HB.out.size; simp at *; omega)) _ | with_reducible refine Below.setCell ?_ (by first | exact Nat.le_refl _ | with_reducible exact HB.out.size | omega | (simp; done) | (simp; omega) | (have := HB.out.size; simp at *; omega)) _)) b); have HO := Lib.hid (OwnA3.below (by repeat (first | with_reducible exact HO.out | with_reducible apply OwnA3.drewN | with_reducible apply OwnA3.drew | with_reducible apply OwnA3.alloc)) b); have KM : Hid (MBox _ (g) (⟨86, M⟩)) := Lib.hid (MBox.below (by repeat (first | with_reducible exact KM.out | with_reducible apply MBox.drewN | with_reducible apply MBox.drew | (with_reducible refine MBox.newAt ?_ ?_ <;> first | (simp; done) | rfl) | with_reducible apply MBox.alloc)) b); obtain ⟨kma, kmb, kmc, kmd, kme, kmg, kmh, kmi, kmj, kmk, kml, kmm, kmn, kmo, kmp, kmq⟩ := KM.out.cell; have kmz := KM.out.lt; clear b)
            | (go_at_call 79; refine (HOr.out _).mono ?_; rintro e w3 ⟨u, rfl, hu, b⟩; obtain ⟨go, cu, rfl, hcu, hB1, hB2, _⟩ := ownI_three hu; have HU := Lib.hid hu; have HA1 := Lib.hid (fun b hb => Nat.ne_of_lt (Nat.lt_of_lt_of_le (World.ownsRow.lt HO.out b hb).2 hB1)); have HA2 : Hid (g < go) := Lib.hid (Nat.lt_of_lt_of_le KM.out.lt hB1); have HA3 : Hid (w.heap.size ≤ go) := Lib.hid (Nat.le_trans HB.out.size hB1); have HB := Lib.hid (chain0 (w := w) (by repeat (first | with_reducible exact Below.refl _ _ | with_reducible exact HB.out | with_reducible apply Below.drew | with_reducible apply bdN | with_reducible refine Below.alloc ?_ (by first | exact Nat.le_refl _ | with_reducible exact HB.out.size | omega | (simp; done) | (simp; omega) | (have := HB.out.size; simp at *; omega)) _ | with_reducible refine Below.setCell ?_ (by first | exact Nat.le_refl _ | with_reducible exact HB.out.size | omega | (simp; done) | (simp; omega) | (have := HB.out.size; simp at *; omega)) _)) b); have HO := Lib.hid (OwnA3.below (by repeat (first | with_reducible exact HO.out | with_reducible apply OwnA3.drewN | with_reducible apply OwnA3.drew | with_reducible apply OwnA3.alloc)) b); have KM : Hid (MBox _ (g) (⟨86, M⟩)) := Lib.hid (MBox.below (by repeat (first | with_reducible exact KM.out | with_reducible apply MBox.drewN | with_reducible apply MBox.drew | (with_reducible refine MBox.newAt ?_ ?_ <;> first | (simp; done) | rfl) | with_reducible apply MBox.alloc)) b); obtain ⟨kma, kmb, kmc, kmd, kme, kmg, kmh, kmi, kmj, kmk, kml, kmm, kmn, kmo, kmp, kmq⟩ := KM.out.cell; have kmz := KM.out.lt; clear b hu hB1 hB2))
          clear kma kmb kmc kmd kme kmg kmh kmi kmj kmk kml kmm kmn kmo kmp kmq kmz
          go_wp2_with fail
          refine (HSo.out go cu _ _ HU.out).mono ?_
          rintro e w4 ⟨rfl, p, q, s, t1, t2, hG, c0, c1, c2⟩
          have HB : Hid (Below w.heap.size w w4) := Lib.hid (HB.out.grown hG HB.out.size (fun k hk => by injection hk with hk; have := HA3.out; omega))
          have HO : Hid (OwnA3 w4 w.heap.size _ (dpL c n)) := Lib.hid (ownA3_kept HO.out hG HA1.out)
          have KM := Lib.hid (maps.MBox.marked KM.out hG (fun k hk => by injection hk with hk; have := HA2.out; omega))
          have HSz2 := Lib.hid HB.out.size
          clear hG HSo HU HOr
          by_cases h0 : (n : Int) < k ∧ (n : Int) < m
          · obtain rfl : p = (n : Int) := t1.2 h0
            obtain ⟨rfl, rfl⟩ := t2 h0
            have HG := Lib.hid (dpL_yes HKk.out HMm.out h0.1 h0.2)
            obtain ⟨lo, hlo⟩ : ∃ lo, lo2 k m = lo := ⟨_, rfl⟩
            obtain ⟨hi, hhi⟩ : ∃ hi, hi2 k m = hi := ⟨_, rfl⟩
            rw [hlo, hhi] at HG
            rw [hlo] at c1
            rw [hhi] at c2
            clear hlo hhi t1 t2 h0 HKk HMm
            have hat : ∀ w, (Instr.arrayAt 55 (.slice (some ⟨go, 0, none⟩) 3 cu)).run Try.prog w = .ok (.pointer (some ⟨go, 0, none⟩)) w := fun w => run_arrayAt w 55 _ 3 _ 3 cu Try.underlying55 (Nat.le_refl _)
            go_wp2_with (at_builtin; refine append_A3_at rfl (.tmp 44) (.tmp 48) rfl w.heap.size _ (dpL c n) ⟨(n : Int), lo, hi⟩ _ _ rfl rfl rfl HO.out (by have := HLn.out; omega) HSz2.out ?_; intro v1 w8 hO1 hB1 hG1 hat1)
            rw [← HG.out] at hO1
            go_roundw
            case rel => exact ⟨n + 1, by omega, by go_num, hO1, HB.out.trans hB1, Lib.hid (mbox_past KM.out hG1 HNe.out), Lib.hid (fun g hg => by
                rcases hat1 with e | e
                · rw [e] at hg; exact HNe.out g hg
                · rw [e] at hg; injection hg with hg; have := KM.out.lt; omega)⟩
            case measure => simp [intOf]; omega
          · have HG := Lib.hid (dpL_no HKk.out HMm.out h0)
            have hne : (p == (n : Int)) = false := beq_eq_false_iff_ne.2 (fun e => h0 (t1.1 e))
            clear t1 t2 h0 HKk HMm
            go_wp2_with fail
            go_roundw
            case rel => exact ⟨n + 1, by omega, by go_num, by rw [HG.out]; exact HO, HB, KM, HNe⟩
            case measure => simp [intOf]; omega
        · obtain rfl : n = 81 := by omega
          go_wp2_with fail
          go_ret2
          exact ⟨_, ret_two (by rw [HT.out]), by rw [HT.out]; exact HO.out, HB.out⟩
    · have HT := Lib.hid (dpR_no (c := c) (by simp [hz]))
      rw [hz] at he
      clear hz hok
      go_wp2_with fail
      go_ret2
      exact ⟨_, ret_two (by rw [HT.out]), by rw [HT.out]; exact OwnA3.empty _ _ HB.out.size, by repeat (first | with_reducible exact Below.refl _ _ | with_reducible exact HB.out | with_reducible apply Below.drew | with_reducible apply bdN | with_reducible refine Below.alloc ?_ (by first | exact Nat.le_refl _ | with_reducible exact HB.out.size | omega | (simp; done) | (simp; omega) | (have := HB.out.size; simp at *; omega)) _ | with_reducible refine Below.setCell ?_ (by first | exact Nat.le_refl _ | with_reducible exact HB.out.size | omega | (simp; done) | (simp; omega) | (have := HB.out.size; simp at *; omega)) _)⟩
end Go.Proofs.Ytfbcjcfhdclklaa.parting
