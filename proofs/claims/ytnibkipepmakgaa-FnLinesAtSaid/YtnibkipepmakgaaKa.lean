/- Draws: the cursor that reads choices from bytes. -/
import Derived.Test.YtnibkipepmakgaaNm
import Derived.Lib.VarintBits
import Derived.Maps.AppendAt
import Derived.Laws.AppendOwn
import Derived.Lib.BufferOwn
namespace Go.Proofs.Ytnibkipepmakgaa.draw
open Go.RowKit
open cards
set_option linter.unusedVariables false

/-- A cursor: the code's slice, where it is, what it goes on with. -/
structure Cv where
  v : Value
  at_ : Int
  seed : Int
abbrev Cv.obj (x : Cv) : Obj := .cells #[x.v, .int .i64 x.at_, .int .u64 x.seed] 41
def CBox (w : World) (g : Nat) (x : Cv) : Prop := w.heap[g]? = some x.obj
theorem CBox.lt {w : World} {g : Nat} {x : Cv} (h : CBox w g x) : g < w.heap.size := by
  rcases Nat.lt_or_ge g w.heap.size with h1 | h1
  · exact h1
  · unfold CBox at h; rw [Array.getElem?_eq_none h1] at h; cases h
theorem CBox.newAt {w : World} {g : Nat} {x : Cv} {o : Obj} (h : w.heap.size = g) (ho : o = x.obj) : CBox (w.alloc o) g x := by subst h; subst ho; exact heap_alloc_new w _
theorem CBox.alloc {w : World} {g : Nat} {x : Cv} (h : CBox w g x) (o : Obj) : CBox (w.alloc o) g x := (Below.heap_alloc w o g h.lt).trans h
theorem CBox.drew {w : World} {g : Nat} {x : Cv} (h : CBox w g x) : CBox w.drew g x := h
theorem CBox.drewN {w : World} {g : Nat} {x : Cv} (h : CBox w g x) (n : Nat) : CBox (w.drewN n) g x := h
theorem CBox.below {w w1 : World} {g : Nat} {x : Cv} (h : CBox w g x) (b : Below w.heap.size w w1) : CBox w1 g x := (b.block g h.lt).trans h
theorem CBox.cell {w : World} {g : Nat} {x : Cv} (h : CBox w g x) : w.cell? ⟨g, 0, none⟩ = some x.v ∧ w.cell? ⟨g, 1, none⟩ = some (.int .i64 x.at_) ∧ w.cell? ⟨g, 2, none⟩ = some (.int .u64 x.seed) := by
  unfold CBox at h
  exact ⟨by rw [cell_of_row w g 0 _ _ _ h]; rfl, by rw [cell_of_row w g 1 _ _ _ h]; rfl, by rw [cell_of_row w g 2 _ _ _ h]; rfl⟩
theorem CBox.frozen {w : World} {g : Nat} {x : Cv} (h : CBox w g x) : ∀ i, w.frozen? ⟨g, i, none⟩ = false := fun i => frozen_of_row w g i _ _ h
theorem CBox.set1 {w : World} {g : Nat} {v : Value} {a s : Int} (h : CBox w g ⟨v, a, s⟩) (a' : Int) : CBox (w.setCell ⟨g, 1, none⟩ (.int .i64 a')) g ⟨v, a', s⟩ := by
  unfold CBox at h ⊢; rw [heap_setCell_same w g 1 _ _ _ h]; rfl
theorem CBox.set2 {w : World} {g : Nat} {v : Value} {a s : Int} (h : CBox w g ⟨v, a, s⟩) (s' : Int) : CBox (w.setCell ⟨g, 2, none⟩ (.int .u64 s')) g ⟨v, a, s'⟩ := by
  unfold CBox at h ⊢; rw [heap_setCell_same w g 2 _ _ _ h]; rfl

/-- The bytes of a code. -/
abbrev bys (l : List Int) : List Value := l.map (fun b => .int .u8 b)
def isByte (l : List Int) : Prop := ∀ b ∈ l, 0 ≤ b ∧ b ≤ 255
/-- A cursor over a code, that has not read more than so many times. -/
def Cur (w : World) (g : Nat) (p : Option Addr) (n c : Nat) (l : List Int) (N : Nat) : Prop :=
  ∃ a s : Int, CBox w g ⟨.slice p n c, a, s⟩ ∧ 0 ≤ a ∧ a ≤ N ∧ Rd w p (bys l) ∧ l.length = n ∧ isByte l ∧ (0 < n → ∀ q, p = some q → q.block ≠ g)

theorem grown_set (w : World) (g i : Nat) (v : Value) : w.grownBy (w.setCell ⟨g, i, none⟩ v) (some g) :=
  ⟨rfl, rfl, rfl, by simp [World.setCell], fun k hk hne => Below.heap_setCell _ _ _ _ (fun e => hne (by rw [e]))⟩
theorem cur_grown (w : World) (g : Nat) (x y : Value) : w.grownBy ((w.setCell ⟨g, 1, none⟩ x).setCell ⟨g, 2, none⟩ y) (some g) := World.grownBy.trans (grown_set w g 1 x) (grown_set _ g 2 y)
theorem grown_drew {w w1 : World} {r : Option Nat} (h : w.grownBy w1 r) : w.grownBy w1.drew r := ⟨h.os, h.tape, h.output, h.size, h.block⟩
theorem Rd.grown {w w1 : World} {p : Option Addr} {xs : List Value} {g : Nat} (h : Rd w p xs) (hg : w.grownBy w1 (some g)) (hne : 0 < xs.length → ∀ q, p = some q → q.block ≠ g) : Rd w1 p xs := fun hp => by
  obtain ⟨b, o, rfl, hb, hc⟩ := h hp
  have hn := hne hp _ rfl
  have e := hg.block b hb (fun e => hn (by cases e; rfl))
  refine ⟨b, o, rfl, Nat.lt_of_lt_of_le hb hg.size, fun j v hj => ?_⟩
  have := hc j v hj
  simp only [World.cell?, e] at this ⊢
  exact this

theorem low_byte (s : Int) (h : 0 ≤ s ∧ s < 18446744073709551616) : 0 ≤ wrap64 (bits BinOp.and IntKind.u64 (s / 1099511627776) 255) ∧ wrap64 (bits BinOp.and IntKind.u64 (s / 1099511627776) 255) ≤ 255 := by
  obtain ⟨h0, h1⟩ := h
  have e : bits BinOp.and IntKind.u64 (s / 1099511627776) 255 = (s / 1099511627776) % 256 := bits_mask .u64 64 (by decide) wraps_u64 8 (by decide) _ (by omega) (by omega)
  rw [e]
  unfold wrap64
  omega
theorem u64_bd (x : Int) : 0 ≤ IntKind.u64.wrap x ∧ IntKind.u64.wrap x < 18446744073709551616 := by rw [IntKind.wrap_u64]; omega
theorem curN {w : World} {g : Nat} {p : Option Addr} {n c : Nat} {l : List Int} {N k : Nat} {s : Int} (K : CBox w g ⟨.slice p n c, k, s⟩) (hB : (k : Int) ≤ N) (hr : Rd w p (bys l)) (hl : l.length = n) (hy : isByte l) (hd : 0 < n → ∀ q, p = some q → q.block ≠ g) (_hm : n ≤ 1000000000) (s2 : Int) :
    Cur ((w.setCell ⟨g, 1, none⟩ (.int .i64 ((k : Int) + 1))).setCell ⟨g, 2, none⟩ (.int .u64 s2)) g p n c l (N + 1) ∧ w.grownBy ((w.setCell ⟨g, 1, none⟩ (.int .i64 ((k : Int) + 1))).setCell ⟨g, 2, none⟩ (.int .u64 s2)) (some g) ∧ CBox ((w.setCell ⟨g, 1, none⟩ (.int .i64 ((k : Int) + 1))).setCell ⟨g, 2, none⟩ (.int .u64 s2)) g ⟨.slice p n c, k + 1, s2⟩ := by
  have hG := cur_grown w g (.int .i64 ((k : Int) + 1)) (.int .u64 s2)
  have hK := (K.set1 ((k : Int) + 1)).set2 s2
  exact ⟨⟨_, _, hK, by omega, by omega, Rd.grown hr hG (fun h => hd (by simp at h; omega)), hl, hy, hd⟩, hG, hK⟩

set_option maxRecDepth 100000 in
set_option maxHeartbeats 4000000 in
theorem next_ (g : Nat) (p : Option Addr) (n c : Nat) (l : List Int) (N : Nat) (w : World) (hN : N ≤ 1000000) (hm : n ≤ 1000000000) (h : Cur w g p n c l N) :
    Calls Try.prog 40 #[.pointer (some ⟨g, 0, none⟩)] w fun e w' => ∃ b : Int, e = .returned (.int .i64 b) ∧ 0 ≤ b ∧ b ≤ 255 ∧ Cur w' g p n c l (N + 1) ∧ w.grownBy w' (some g) := by
  obtain ⟨a, s, hb, h0, h1, hr, hl, hy, hd⟩ := h
  obtain ⟨k, rfl⟩ : ∃ k : Nat, a = k := ⟨a.toNat, by omega⟩
  obtain ⟨k0, k1, k2⟩ := hb.cell
  have kf := hb.frozen
  have kz := hb.lt
  have m1 : IntKind.i64.wrap ((k : Int) + 1) = (k : Int) + 1 := IntWalk.i64_in _ (by omega)
  have m2 : (0 : Int) ≤ k := by omega
  have HB := Lib.hid h1
  have HR := Lib.hid hr
  have HL := Lib.hid hl
  have HY := Lib.hid hy
  have HD := Lib.hid hd
  have K := Lib.hid hb
  clear h0 h1 hy hd hb
  by_cases hq : (k : Int) < (n : Int)
  · obtain ⟨pb, po, rfl, hpb, hc⟩ := hr (by simp; omega)
    have hx : l[k]? = some l[k] := List.getElem?_eq_getElem (by omega)
    obtain ⟨b, hbb⟩ : ∃ b, l[k] = b := ⟨_, rfl⟩
    rw [hbb] at hx
    have c0 : w.cell? ⟨pb, po + k, none⟩ = some (.int .u8 b) := hc k _ (by simp [hx])
    have HX := Lib.hid hx
    have hb0 := HY.out b (List.mem_of_getElem? hx)
    have HB0 := Lib.hid hb0
    obtain ⟨hb1, hb2⟩ := hb0
    have hq2 : (k : Int) + 1 ≤ n := by omega
    clear hbb hx hc hr hl
    go_enter Try.func40, Try.ntmps40
    go_wp2_with fail
    go_region
    go_wp2_with fail
    go_region
    go_wp2_with fail
    clear c0
    have HC := Lib.hid (curN K.out HB.out HR.out HL.out HY.out HD.out hm)
    clear k0 k1 k2 kf kz
    obtain ⟨s2, hs2⟩ : ∃ s2, IntKind.u64.wrap (IntKind.u64.wrap (IntKind.u64.wrap (s * 6364136223846793005) + b) + 462197) = s2 := ⟨_, rfl⟩
    rw [hs2]
    have HS := Lib.hid (hs2 ▸ u64_bd _ : 0 ≤ s2 ∧ s2 < 18446744073709551616)
    have HC := Lib.hid (HC.out s2)
    clear hs2
    obtain ⟨W, hW⟩ : ∃ W, ((w.setCell ⟨g, 1, none⟩ (.int .i64 ((k : Int) + 1))).setCell ⟨g, 2, none⟩ (.int .u64 s2)) = W := ⟨_, rfl⟩
    rw [hW] at HC ⊢
    clear hW
    obtain ⟨hCur, hG, hK⟩ := HC.out
    obtain ⟨k0, k1, k2⟩ := hK.cell
    have HC := Lib.hid hCur
    have HG := Lib.hid hG
    clear hCur hG hK
    go_region
    go_wp2_with fail
    go_ret
    exact ⟨b, rfl, HB0.out.1, HB0.out.2, HC.out, by repeat (first | exact HG.out | apply grown_drew)⟩
  · have hq2 : ¬ (k : Int) + 1 ≤ n := by omega
    clear hr hl
    go_enter Try.func40, Try.ntmps40
    go_wp2_with fail
    go_region
    go_wp2_with fail
    have HC := Lib.hid (curN K.out HB.out HR.out HL.out HY.out HD.out hm)
    clear k0 k1 k2 kf kz
    obtain ⟨s2, hs2⟩ : ∃ s2, IntKind.u64.wrap (IntKind.u64.wrap (IntKind.u64.wrap (s * 6364136223846793005)) + 462197) = s2 := ⟨_, rfl⟩
    rw [hs2]
    have HS := Lib.hid (hs2 ▸ u64_bd _ : 0 ≤ s2 ∧ s2 < 18446744073709551616)
    have HC := Lib.hid (HC.out s2)
    clear hs2
    obtain ⟨W, hW⟩ : ∃ W, ((w.setCell ⟨g, 1, none⟩ (.int .i64 ((k : Int) + 1))).setCell ⟨g, 2, none⟩ (.int .u64 s2)) = W := ⟨_, rfl⟩
    rw [hW] at HC ⊢
    clear hW
    obtain ⟨hCur, hG, hK⟩ := HC.out
    obtain ⟨k0, k1, k2⟩ := hK.cell
    have HC := Lib.hid hCur
    have HG := Lib.hid hG
    clear hCur hG hK
    go_region
    go_wp2_with fail
    go_ret
    refine ⟨_, rfl, ?_, ?_, HC.out, by repeat (first | exact HG.out | apply grown_drew)⟩
    · exact (low_byte s2 HS.out).1
    · exact (low_byte s2 HS.out).2
end Go.Proofs.Ytnibkipepmakgaa.draw
