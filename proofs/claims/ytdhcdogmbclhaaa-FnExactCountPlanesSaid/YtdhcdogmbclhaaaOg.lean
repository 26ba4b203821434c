/- Spans: the program's. -/
import Derived.Test.YtdhcdogmbclhaaaOf
import Derived.Test.YtdhcdogmbclhaaaAw
import Derived.Test.YtdhcdogmbclhaaaMp
import Derived.Test.YtdhcdogmbclhaaaSd
import Derived.Lib.SliceRun
namespace Go.Proofs.Ytdhcdogmbclhaaa.planes
open Go.RowKit
open cards reg
set_option linter.unusedVariables false

set_option maxRecDepth 100000 in
set_option maxHeartbeats 2000000 in
theorem clone_cards (l : List Cd) (b o n c : Nat) (w : World) (hn : l.length = n) (hl : n ≤ 1000000) (hr : Rd w (some ⟨b, o, none⟩) (flat l)) :
    Calls Try.prog 78 #[.slice (some ⟨b, o, none⟩) n c] w fun e w' => ∃ u, e = .returned u ∧ OwnN w' w.heap.size u l ∧ Below w.heap.size w w' := by
  have HN := Lib.hid hn
  have HR := Lib.hid hr
  have HO := Lib.hid (OwnN.empty w w.heap.size (Nat.le_refl _))
  have HB0 : Hid (Below w.heap.size w (w.alloc (.cells #[] 33))) := Lib.hid ((Below.refl _ _).alloc (Nat.le_refl _) _)
  have q22 : ∀ (w : World) (a : Option Addr) (n c n' c' : Nat), (binOp .eql 22 (.slice a n c) (.slice none n' c')).run Try.prog w = .ok (.bool a.isNone) w := fun w a n c n' c' => Lib.run_eql_slice_nil w _ _ a n c n' c' Try.underlying22
  clear hn hr
  go_enter Try.func78, Try.ntmps78
  go_wp2_with (at_builtin; refine list_append_cards rfl (.tmp 5) (.tmp 6) rfl w.heap.size _ [] l (some ⟨b, o, none⟩) n c _ rfl rfl HO.out.1 HN.out (HR.out.alloc _) (by intro h; cases h) (by simp; omega) HB0.out.size ?_; intro v1 w1 hO1 hN1 hB1 hG1)
  go_ret
  exact ⟨_, rfl, ⟨hO1, hN1 HO.out.2⟩, HB0.out.trans hB1⟩

/-- Is a card among those of a list? -/
def memB (r : List Cd) (y : Cd) : Bool := r.any fun x => same y x
theorem memB_iff {r : List Cd} {y : Cd} : memB r y = true ↔ y ∈ r := by
  unfold memB
  rw [List.any_eq_true]
  constructor
  · rintro ⟨x, h1, h2⟩; rw [same_iff.1 h2]; exact h1
  · intro h; exact ⟨y, h, same_iff.2 rfl⟩
theorem memB_snoc (r : List Cd) (x y : Cd) : (same y x || memB r y) = memB (r ++ [x]) y := by
  unfold memB
  rw [List.any_append, Bool.or_comm]; simp
theorem memB_take {l : List Cd} {k : Nat} {x : Cd} (hx : l[k]? = some x) (y : Cd) : (same y x || memB (l.take k) y) = memB (l.take (k + 1)) y := by rw [take_snoc hx, memB_snoc]
theorem off_own {w w1 : World} {B g : Nat} {v : Value} {l : List Cd} (h : Own w B v l) (hg : w.grownBy w1 (some g)) (ho : ∀ k, v.ownBlock = some k → k ≠ g) : Own w1 B v l :=
  World.ownsRow.kept h hg (by
    cases hv : v.ownBlock with
    | none => exact .inl rfl
    | some k => exact .inr (fun e => ho k hv (by injection e)))
theorem off_rd {w w1 : World} {g b o : Nat} {xs : List Value} (h : Rd w (some ⟨b, o, none⟩) xs) (hg : w.grownBy w1 (some g)) (ho : b ≠ g) : Rd w1 (some ⟨b, o, none⟩) xs := fun hp => by
  obtain ⟨b', o', e, hlt, hc⟩ := h hp
  injection e with e
  injection e with e1 e2
  subst e1; subst e2
  refine ⟨b, o, rfl, Nat.lt_of_lt_of_le hlt hg.size, fun j v hv => ?_⟩
  have e := hg.block b hlt (fun e => ho (by injection e))
  have h2 := hc j v hv
  unfold World.cell? at h2 ⊢
  rw [e]; exact h2
theorem off_box {w w1 : World} {g k : Nat} {x : Cd} (h : Box w k x) (hg : w.grownBy w1 (some g)) (hk : k ≠ g) : Box w1 k x := (hg.block k h.lt (fun e => hk (by injection e))).trans h
/-- What the call owns while it searches: the list in block g, the map in block gm. -/
structure SpW (w wr : World) (gm g c : Nat) (r : List Cd) : Prop where
  own : Own wr w.heap.size (.slice (some ⟨g, 0, none⟩) r.length c) r
  map : MapB wr gm r.length (memB r)
  off : g ≠ gm
  lt : gm < wr.heap.size
  le : w.heap.size ≤ gm
  below : Below w.heap.size w wr
theorem SpW.next {w wr w1 : World} {gm g c : Nat} {r : List Cd} (h : SpW w wr gm g c r) (b : Below wr.heap.size wr w1) : SpW w w1 gm g c r :=
  ⟨h.own.below b, h.map.below b, h.off, Nat.lt_of_lt_of_le h.lt b.size, h.le, h.below.trans (b.mono h.below.size)⟩
theorem SpW.alloc {w wr : World} {gm g c : Nat} {r : List Cd} (h : SpW w wr gm g c r) (o : Obj) : SpW w (wr.alloc o) gm g c r := h.next ((Below.refl _ _).alloc (Nat.le_refl _) o)
theorem SpW.drew {w wr : World} {gm g c : Nat} {r : List Cd} (h : SpW w wr gm g c r) : SpW w wr.drew gm g c r := ⟨h.own, h.map, h.off, h.lt, h.le, h.below.drew⟩
theorem SpW.drewN {w wr : World} {gm g c : Nat} {r : List Cd} (h : SpW w wr gm g c r) (k : Nat) : SpW w (wr.drewN k) gm g c r := ⟨h.own, h.map, h.off, h.lt, h.le, bdN h.below k⟩
theorem SpW.cap {w wr : World} {gm g c : Nat} {r : List Cd} (h : SpW w wr gm g c r) : r.length ≤ c := by
  obtain ⟨p', c', e, hc, _⟩ := h.own.form
  injection e with _ _ e3
  omega
theorem SpW.rd {w wr : World} {gm g c : Nat} {r : List Cd} (h : SpW w wr gm g c r) : Rd wr (some ⟨g, 0, none⟩) (flat r) := h.own.rd

set_option maxRecDepth 100000 in
set_option maxHeartbeats 8000000 in
theorem span_of (l : List Cd) (b0 o0 n cp : Nat) (w : World) (hn : l.length = n) (hl : n ≤ 27) (hr : Rd w (some ⟨b0, o0, none⟩) (flat l)) (hok : l.all Cd.ok = true) (hs : sorted l) :
    Calls Try.prog 51 #[.slice (some ⟨b0, o0, none⟩) n cp] w fun e w' => ∃ u, e = .returned u ∧ Own w' w.heap.size u (span l) ∧ Below w.heap.size w w' := by
  have hmm := @run_makeMap Try.prog
  have HN := Lib.hid hn
  have HK := Lib.hid hok
  have HS := Lib.hid hs
  have HR0 := Lib.hid hr
  clear hn hr hok hs
  go_enter Try.func51, Try.ntmps51
  go_wp2_with fail
  refine (clone_cards l b0 o0 n cp _ HN.out (by omega) HR0.out).mono ?_
  rintro e w1 ⟨u, rfl, hu, b⟩
  obtain ⟨g, c, rfl, hc, _⟩ := hu.form
  have HG := Lib.hid (show w.heap.size ≤ g ∧ g < w1.heap.size from hu.own.span g rfl)
  have HM := Lib.hid (MapB.made w1)
  have HO := Lib.hid (hu.own.alloc (.map #[] 0))
  have HB := Lib.hid (b.alloc b.size (.map #[] 0))
  obtain ⟨gm, hgm⟩ : ∃ gm, w1.heap.size = gm := ⟨_, rfl⟩
  have HGm := Lib.hid hgm
  rw [hgm] at HM HG
  rw [HN.out] at HO hc
  have HBw := Lib.hid b.size
  clear hu b
  rw [HN.out]
  go_upto_region 3 with fail
  try rw [HGm.out]
  clear hgm
  have hwl : w.heap.size ≤ gm := by have := HBw.out; have := HGm.out; omega
  generalize w1.alloc (.map #[] 0) = W1 at *
  go_wp2_with fail
  go_loopw [6, 16] (fun _ i wr => ∃ k : Nat, k ≤ n ∧ i = .int .i64 k ∧ Hid (MapB wr gm k (memB (l.take k))) ∧ Hid (Own wr w.heap.size (.slice (some ⟨g, 0, none⟩) n c) l) ∧ Hid (Below w.heap.size w wr)) (fun _ i _ => n - (intOf i).toNat)
  case atStart => exact ⟨0, Nat.zero_le _, rfl, HM, HO, HB⟩
  case round =>
    clear HM HO HB
    obtain ⟨k, hk, rfl, HM, HO, HB⟩ := hrel
    by_cases hlt : k < n
    · have HR := Lib.hid (HR0.out.below HB.out)
      obtain ⟨b, o, x, e1, hb, hx, c0, c1, c2, c3⟩ := HR.out.card (k := k) (by rw [HN.out]; exact hlt)
      injection e1 with e1; injection e1 with e1a e1b
      subst e1a; subst e1b
      have HX := Lib.hid (ok_at HK.out hx)
      have HE := Lib.hid (memB_take hx)
      have m0 : (0 : Int) ≤ (k : Int) := by omega
      have m1 : (k : Int) < (n : Int) := by omega
      have HBa := Lib.hid (HB.out.alloc HB.out.size x.obj)
      clear hx
      go_wp2_with (at_mapUpdate; refine map_store rfl _ _ _ rfl gm k (memB (l.take k)) rfl (HM.out.alloc _) (by simp only [maxLen]; omega) x HX.out rfl rfl ?_; intro w6 hM6 hG6)
      go_roundw
      case rel => exact ⟨k + 1, by omega, by go_num, Lib.hid (hM6.ext (fun z _ => HE.out z)), Lib.hid (off_own (HO.out.alloc _) hG6 (fun q hq => by have hq : some g = some q := hq; injection hq with hq; have := HG.out; omega)), Lib.hid (HBa.out.grown hG6 HBa.out.size (fun q hq => by injection hq with hq; omega))⟩
      case measure => simp [intOf]; omega
    · obtain rfl : k = n := by omega
      have HTk := Lib.hid (show l.take k = l by rw [← HN.out, List.take_length])
      rw [HTk.out] at HM
      have HWs : Hid (SpW w wr gm g c l) := Lib.hid ⟨by rw [HN.out]; exact HO.out, by rw [HN.out]; exact HM.out, by have := HG.out; omega, HM.out.lt, hwl, HB.out⟩
      clear HO HM HB
      go_wp2_with fail
      go_loopw [3, 7] (fun ov iv wr => ∃ (r m : List Cd) (g c i : Nat), i ≤ r.length ∧ ov = .slice (some ⟨g, 0, none⟩) r.length c ∧ iv = .int .i64 i ∧ Hid (SpW w wr gm g c r) ∧ Hid (SpJ l r m i 0)) (fun _ iv _ => 82 - (intOf iv).toNat)
      case atStart => exact ⟨l, l, g, c, 0, Nat.zero_le _, by rw [HN.out], rfl, HWs, Lib.hid (SpJ.start HK.out HS.out)⟩
      case round =>
        clear HWs HTk
        obtain ⟨r, m, g, c, i, hi, rfl, rfl, HW, HJ⟩ := hrel
        obtain ⟨W0, rfl⟩ : ∃ W0 : World, W0 = wr := ⟨_, rfl⟩
        have hle := HJ.out.le
        have hcap := HW.out.cap
        obtain ⟨q, hq⟩ : ∃ q, r.length = q := ⟨_, rfl⟩
        have HQ := Lib.hid hq
        rw [hq] at hi hle hcap ⊢
        clear hq
        by_cases hit : i < q
        · have m0 : (0 : Int) ≤ (i : Int) := by omega
          have m1 : (i : Int) < (q : Int) := by omega
          have m2 : i ≤ c := by omega
          have m3 : (i : Int) ≤ (c : Int) := by omega
          go_wp2_with fail
          go_loopw [3, 33] (fun ov jv wq => ∃ (s m' : List Cd) (g' c' j : Nat), j ≤ i ∧ ov = .slice (some ⟨g', 0, none⟩) (r ++ s).length c' ∧ jv = .int .i64 j ∧ Hid (SpW w wq gm g' c' (r ++ s)) ∧ Hid (SpJ l (r ++ s) m' i j) ∧ Hid (Rd wq (some ⟨g, 0, none⟩) (flat r)) ∧ g < wq.heap.size) (fun _ jv _ => i - (intOf jv).toNat)
          case atStart => exact ⟨[], m, g, c, 0, Nat.zero_le _, by rw [List.append_nil, HQ.out], rfl, by rw [List.append_nil]; exact HW, by rw [List.append_nil]; exact HJ, Lib.hid HW.out.rd, (HW.out.own.span g rfl).2⟩
          case round =>
            have hgne := HW.out.off
            clear HW HJ
            obtain ⟨s, m', g', c', j, hj, rfl, rfl, HW, HJ, HRg, hgs⟩ := hrel
            have hle' := HJ.out.le
            have hcap' := HW.out.cap
            obtain ⟨q', hq'⟩ : ∃ q', (r ++ s).length = q' := ⟨_, rfl⟩
            have HQ' := Lib.hid hq'
            have hqq : q ≤ q' := by rw [← hq', List.length_append, HQ.out]; omega
            rw [hq'] at hle' hcap' ⊢
            clear hq'
            have n0 : (0 : Int) ≤ (j : Int) := by omega
            by_cases hjt : j < i
            · have n1 : (j : Int) < (i : Int) := by omega
              obtain ⟨b2, o2, y, e2, hb2, hy, d0, d1, d2, d3⟩ := HRg.out.card (k := j) (by rw [HQ.out]; omega)
              injection e2 with e2; injection e2 with e2a e2b
              subst e2a; subst e2b
              obtain ⟨b1, o1, x, e1, hb1, hx, c0, c1, c2, c3⟩ := HW.out.rd.card (k := i) (by rw [HQ'.out]; omega)
              injection e1 with e1; injection e1 with e1a e1b
              subst e1a; subst e1b
              have hy' : (r ++ s)[j]? = some y := by rw [List.getElem?_append_left (by rw [HQ.out]; omega)]; exact hy
              have HX := Lib.hid (ok_at HJ.out.rok hx)
              have HY := Lib.hid (ok_at HJ.out.rok hy')
              have HXi := Lib.hid hx
              have HYj := Lib.hid hy'
              have HTk := Lib.hid (third_ok x y)
              have HTh := Lib.hid (fun w => third_of x y w HX.out HY.out)
              have HI1 := Lib.hid (fun h => HJ.out.keep HXi.out HYj.out h)
              have HI2 := Lib.hid (fun h => HJ.out.more HXi.out HYj.out hjt h)
              obtain ⟨t, ht⟩ : ∃ t, third x y = t := ⟨_, rfl⟩
              rw [ht] at HTk HTh HI1 HI2
              clear hx hy hy' ht
              simp only [Nat.zero_add] at d0 d1 d2 d3
              go_upto_region 14 with fail
              have KY : Hid (Box (wr.alloc y.obj) wr.heap.size y) := Lib.hid (Box.newAt rfl rfl)
              have HW := Lib.hid (HW.out.alloc y.obj)
              have HRg := Lib.hid (HRg.out.alloc y.obj)
              have hb1' : g' < (wr.alloc y.obj).heap.size := by simp; omega
              have hgs' : g < (wr.alloc y.obj).heap.size := by simp; omega
              have c0' := (Below.cell ((Below.refl wr.heap.size wr).alloc (Nat.le_refl _) y.obj) (p := ⟨g', 0 + i * 4, none⟩) hb1).trans c0
              have c1' := (Below.cell ((Below.refl wr.heap.size wr).alloc (Nat.le_refl _) y.obj) (p := ⟨g', 0 + i * 4 + 1, none⟩) hb1).trans c1
              have c2' := (Below.cell ((Below.refl wr.heap.size wr).alloc (Nat.le_refl _) y.obj) (p := ⟨g', 0 + i * 4 + 2, none⟩) hb1).trans c2
              have c3' := (Below.cell ((Below.refl wr.heap.size wr).alloc (Nat.le_refl _) y.obj) (p := ⟨g', 0 + i * 4 + 3, none⟩) hb1).trans c3
              clear c0 c1 c2 c3 d0 d1 d2 d3 hb1 hb2 hgs
              obtain ⟨gy, hgy⟩ : ∃ gy, wr.heap.size = gy := ⟨_, rfl⟩
              rw [hgy] at KY
              try rw [hgy]
              clear hgy
              generalize wr.alloc y.obj = W2 at *
              refine region_vb 33 #[.int .i64 0, .int .i64 0, .int .i64 0, .int .i64 0] [(true, 0), (true, 1), (true, 2), (true, 3), (true, 4), (false, 5)] 6 7 10 [] _ _ 42 (by kernel_rfl) (fun w => by kernel_rfl) (by kernel_rfl) rfl rfl (by kernel_rfl) rfl rfl rfl rfl rfl rfl rfl rfl (by decide) (of_decide_eq_true rfl) ?_
              refine chain_pure 37 (v := .slice (some ⟨g', 0, none⟩) q' c') rfl rfl rfl (fun w => by kernel_rfl) ?_
              refine chain_pure 38 (v := .int .i64 i) rfl rfl rfl (fun w => by kernel_rfl) ?_
              refine chain_pure 39 (v := .pointer (some ⟨g', 0 + i * 4, none⟩)) rfl rfl rfl (exec_indexS (n := q') (cp := c') (by omega) rfl (by kernel_rfl) (by kernel_rfl)) ?_
              refine chain_card 40 rfl rfl rfl _ rfl (by kernel_rfl) x (fun w' h => ⟨(Below.cell h (p := ⟨g', _, none⟩) hb1').trans c0', (Below.cell h (p := ⟨g', _, none⟩) hb1').trans c1', (Below.cell h (p := ⟨g', _, none⟩) hb1').trans c2', (Below.cell h (p := ⟨g', _, none⟩) hb1').trans c3'⟩) ?_
              refine chain_card 41 (g := gy) (off := 0) rfl rfl rfl _ rfl (by kernel_rfl) y (fun w' h => (KY.out.below h).cell) ?_
              refine chain_call 42 rfl rfl rfl (fun w => by kernel_rfl) (fun w0 h0 => HTh.out w0) ?_
              intro wz g1 hI hg hb
              refine ⟨by kernel_rfl, #[.int .i64 t.a, .int .i64 t.b, .int .i64 t.c, .int .i64 t.d], by kernel_rfl, rfl, by simp [Value.oneCell'], ?_⟩
              intro w5 R1 b5
              refine ⟨_, rfl, ?_⟩
              simp only [Act.put, List.setIfInBounds_toArray, List.set_cons_zero, List.set_cons_succ]
              have KT : Hid (Box w5 g1 t) := Lib.hid R1.out
              have hg1m : g1 ≠ gm := by have := HW.out.lt; have : W2.heap.size ≤ g1 := hg; omega
              have HW := Lib.hid (HW.out.next b5)
              have HRg := Lib.hid (HRg.out.below b5)
              have hgs := Nat.lt_of_lt_of_le hgs' b5.size
              clear b5 hI hg hb R1 KY c0' c1' c2' c3' hb1' hgs'
              unfold ptr
              obtain ⟨kta, ktb, ktc, ktd⟩ := KT.out.cell
              have ktz := KT.out.lt
              have hlk := map_look HW.out.map HTk.out
              cases hin : memB (r ++ s) t
              · have hnot : t ∉ r ++ s := fun h => by rw [memB_iff.2 h] at hin; cases hin
                have HJ2 := Lib.hid (HI2.out hnot)
                rw [hin] at hlk
                clear hin hnot HI1 HI2
                have HOq : Hid (Own w5 w.heap.size (.slice (some ⟨g', 0, none⟩) q' c') (r ++ s)) := Lib.hid (by have h := HW.out.own; rw [HQ'.out] at h; exact h)
                have HMq : Hid (MapB w5 gm q' (memB (r ++ s))) := Lib.hid (by have h := HW.out.map; rw [HQ'.out] at h; exact h)
                have HBq := Lib.hid HW.out.below
                have hoff := HW.out.off
                have hlw := HW.out.le
                have hlt5 := HW.out.lt
                clear HW
                go_upto_region 17 with (at_mapUpdate; refine map_store rfl _ _ _ rfl gm q' (memB (r ++ s)) rfl HMq.out (by simp only [maxLen]; omega) t HTk.out rfl rfl ?_; intro w6 hM6 hG6)
                have HM6 := Lib.hid (hM6.ext (fun z _ => memB_snoc (r ++ s) t z))
                have HO6 := Lib.hid (off_own HOq.out hG6 (fun k hk => by have hk : some g' = some k := hk; injection hk with hk; omega))
                have HB6 := Lib.hid (HBq.out.grown hG6 HBq.out.size (fun q hq => by injection hq with hq; omega))
                have HR6 := Lib.hid (off_rd HRg.out hG6 (by omega))
                have hsz6 := hG6.size
                have KT6 : Hid (Box w6 g1 t) := Lib.hid (off_box KT.out hG6 hg1m)
                clear hM6 hG6 hlk kta ktb ktc ktd HOq HMq HBq HRg KT
                obtain ⟨kta, ktb, ktc, ktd⟩ := KT6.out.cell
                have ktz6 := KT6.out.lt
                go_wp2_with (at_builtin; refine append_cd_keep rfl (.tmp 49) (.tmp 51) rfl w.heap.size (some ⟨g', 0, none⟩) q' c' (r ++ s) t _ _ rfl rfl rfl HO6.out HQ'.out (by omega) HB6.out.size ?_; intro v8 w8 hO8 hB8 hG8 hA8 hR8)
                obtain ⟨p8, c8, rfl, hc8, _, hp8⟩ := hO8.form
                obtain ⟨g8, rfl, _, hg8, _⟩ := hp8 (by simp; omega)
                have hsz8 : w6.heap.size ≤ w8.heap.size := hG8.size
                have hgm8 : gm < w8.heap.size := Nat.lt_of_lt_of_le (Nat.lt_of_lt_of_le hlt5 hsz6) hsz8
                have hne8 : g8 = g' ∨ g8 = w6.heap.size + 1 → g8 ≠ gm := by intro h; omega
                have hl8 : (r ++ s ++ [t]).length = q' + 1 := by rw [List.length_append, HQ'.out]; rfl
                have hA8' : g8 = g' ∨ g8 = w6.heap.size + 1 := by
                  rcases hA8 with h | h
                  · left; have h : some g8 = some g' := h; injection h
                  · right; have h : some g8 = some (w6.heap.size + 1) := h; injection h
                have HW8 : Hid (SpW w w8 gm g8 c8 (r ++ s ++ [t])) := Lib.hid ⟨hO8, by rw [hl8]; exact HM6.out.kept hG8 (by intro e; have e : some gm = some g' := e; injection e with e; omega), hne8 hA8', hgm8, hlw, HB6.out.trans hB8⟩
                have HR8 : Hid (Rd w8 (some ⟨g, 0, none⟩) (flat r)) := Lib.hid (by
                  by_cases e : g = g'
                  · have h := hR8.take r.length
                    rw [List.take_left] at h
                    rw [e]; exact h
                  · exact off_rd HR6.out hG8 e)
                have hgs8 : g < w8.heap.size := Nat.lt_of_lt_of_le (Nat.lt_of_lt_of_le hgs hsz6) hsz8
                rw [List.append_assoc] at HJ2 HW8
                have hl9 : (r ++ (s ++ [t])).length = (r ++ s ++ [t]).length := by rw [List.append_assoc]
                clear hO8 hB8 hG8 hA8 hR8 hA8' hp8
                go_roundw
                case rel => exact ⟨s ++ [t], _, g8, c8, j + 1, by omega, by rw [hl9], by go_num, HW8, HJ2, HR8, hgs8⟩
                case measure => simp [intOf]; omega
              · have HJ2 := Lib.hid (HI1.out (memB_iff.1 hin))
                rw [hin] at hlk
                clear hin HI1 HI2
                go_wp2_with fail
                go_roundw
                case rel => exact ⟨s, m', g', c', j + 1, by omega, by rw [HQ'.out], by go_num, HW, HJ2, HRg, hgs⟩
                case measure => simp [intOf]; omega
            · obtain rfl : j = i := by omega
              have HJ2 := Lib.hid HJ.out.next
              go_wp2_with fail
              go_roundw
              case rel => exact ⟨r ++ s, m', g', c', j + 1, by rw [HQ'.out]; omega, by rw [HQ'.out], by go_num, HW, HJ2⟩
              case measure => simp [intOf]; omega
        · obtain rfl : i = q := by omega
          have HJp := Lib.hid (HJ.out.put HK.out (by rw [HQ.out]; exact Nat.le_refl _))
          have HRk := Lib.hid HJ.out.rok
          have HRn := Lib.hid HJ.out.nodup
          have HB := Lib.hid HW.out.below
          have HO : Hid (Own W0 w.heap.size (.slice (some ⟨g, 0, none⟩) i c) r) := Lib.hid (by have h := HW.out.own; rw [HQ.out] at h; exact h)
          have hgw := (HO.out.span g rfl).1
          go_wp2_with fail
          refine (sort_cards r g i c w.heap.size _ HQ.out (by omega) HO.out).mono ?_
          rintro e w9 ⟨rfl, l', hp, hl', hss, ho, hG⟩
          have HE := Lib.hid (sorted_allPut HRk.out HRn.out hp hl' hss)
          rw [HE.out, HJp.out] at ho
          have HB9 := Lib.hid (HB.out.grown hG HB.out.size (fun q hq => by injection hq with hq; omega))
          have HO9 := Lib.hid ho
          clear hp hl' hss ho hG
          go_wp2_with fail
          go_ret
          exact ⟨_, rfl, HO9.out, HB9.out⟩
end Go.Proofs.Ytdhcdogmbclhaaa.planes
