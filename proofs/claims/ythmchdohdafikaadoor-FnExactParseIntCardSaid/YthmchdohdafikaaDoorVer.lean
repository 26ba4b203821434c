/- The model's and the program's VerifyChecksum: contracts over one translation. -/
import Derived.Test.YthmchdohdafikaaDoorSeal
import Derived.Test.YthmchdohdafikaaDoorHead
import Derived.Deep.DeepHandedRow
import Derived.WalkSmall
import Derived.ChangeAgain
namespace Go.Proofs.YthmchdohdafikaaDoor.ver
open Go.RowKit
set_option linter.unusedVariables false

/-- What stands ahead of the first mark. -/
def hd (s : ByteArray) : ByteArray := ⟨(s.data.toList.takeWhile (· != 35)).toArray⟩
theorem hd_list (s : ByteArray) : (hd s).data.toList = s.data.toList.takeWhile (· != 35) := by simp [hd]
theorem hd_of (s t : ByteArray) (h : t.data.toList = s.data.toList.takeWhile (· != 35)) : t = hd s := by
  apply ByteArray.ext
  apply Array.toList_inj.1
  rw [h, hd_list]
theorem hd_size (s : ByteArray) : (hd s).size ≤ s.size := by
  obtain ⟨t, rest, _, h2, h3⟩ := cut.parts_head s 35
  rw [← hd_of s t h2]; exact h3
theorem hd_free (s : ByteArray) : sealing.marked (hd s) = false := by
  unfold sealing.marked
  rw [hd_list]
  have := one.head_free 35 s.data.toList
  simpa using this

theorem split_first (s : ByteArray) (w : World) (hs : s.size ≤ 1048576) :
    Calls Tryd.prog 36 #[.string s, .int .u8 35] w fun e w' => ∃ g n cap, e = .returned (.slice (some ⟨g, 0, none⟩) n cap) ∧ 0 < n ∧ w'.cell? ⟨g, 0, none⟩ = some (.string (hd s)) ∧ Below w.heap.size w w' := by
  refine (cut.split_any s 35 w hs).mono ?_
  rintro e w' ⟨v, rfl, hown, hb⟩
  obtain ⟨t, rest, h1, h2, h3⟩ := cut.parts_head s 35
  rw [h1] at hown
  obtain rfl := hd_of s t h2
  obtain ⟨hl, hn | ⟨g, cap, cur, rfl, hg, hh, hn, hc, hz, ht⟩⟩ := hown
  · simp at hn
  · refine ⟨g, _, cap, rfl, by simp, ?_, hb⟩
    have hown : w'.ownsRow w.heap.size 9 1 (.slice (some ⟨g, 0, none⟩) (hd s :: rest).length cap) (hd s :: rest).length ((hd s :: rest).map Value.string) := ⟨hl, .inr ⟨g, cap, cur, rfl, hg, hh, hn, hc, hz, ht⟩⟩
    exact hown.cells (g := g) rfl 0 _ rfl

theorem ne_beq {a b : ByteArray} (h : ¬ a = b) : (a.toList == b.toList) = false := by
  rw [beq_eq_false_iff_ne]
  intro e
  apply h
  apply ByteArray.ext
  apply Array.toList_inj.1
  rw [← ByteArray.toList_eq, ← ByteArray.toList_eq, e]
/-- When a text is a seal. -/
def isSeal (s : ByteArray) : Prop := s.size ≤ 4000 ∧ sealing.sealB (hd s) = s
instance (s : ByteArray) : Decidable (isSeal s) := by unfold isSeal; exact inferInstance

set_option maxHeartbeats 400000 in
theorem spec_yes (s : ByteArray) (w : World) (hs : s.size ≤ 1048576) (h : isSeal s) :
    Calls Tryd.prog 20 #[.string s] w fun e w' => e = .returned (.tuple #[.string (hd s), .bool true]) ∧ Below w.heap.size w w' := by
  obtain ⟨h0, h1⟩ := h
  have HS := Lib.hid (split_first s w hs)
  have HC := Lib.hid (fun w => sealing.seal_any (hd s) w (by have := hd_size s; omega))
  have HQ := Lib.hid h1
  clear h1
  go_enter Tryd.func20, Tryd.ntmps20
  go_wp2_with fail
  refine HS.out.mono ?_
  rintro e w1 ⟨g, n, cap, rfl, hn, hc, hb⟩
  have HB := Lib.hid hb
  clear hb
  go_wp2_with fail
  refine (HC.out w1).mono ?_
  rintro e w2 ⟨rfl, j, rfl⟩
  rw [HQ.out]
  go_wp2_with fail
  go_ret2
  exact ⟨rfl, HB.out.trans (Joins.below_draws _ _ _)⟩

set_option maxHeartbeats 400000 in
theorem spec_no (s : ByteArray) (w : World) (hs : s.size ≤ 1048576) (h : ¬ isSeal s) :
    Calls Tryd.prog 20 #[.string s] w fun e w' => e = .returned (.tuple #[.string ⟨#[]⟩, .bool false]) ∧ Below w.heap.size w w' := by
  by_cases h0 : s.size ≤ 4000
  · have h1 : ¬ sealing.sealB (hd s) = s := fun h1 => h ⟨h0, h1⟩
    have HS := Lib.hid (split_first s w hs)
    have HC := Lib.hid (fun w => sealing.seal_any (hd s) w (by have := hd_size s; omega))
    have hq : ((sealing.sealB (hd s)).toList == s.toList) = false := ne_beq h1
    clear h1 h
    go_enter Tryd.func20, Tryd.ntmps20
    go_wp2_with fail
    refine HS.out.mono ?_
    rintro e w1 ⟨g, n, cap, rfl, hn, hc, hb⟩
    have HB := Lib.hid hb
    clear hb
    go_wp2_with fail
    refine (HC.out w1).mono ?_
    rintro e w2 ⟨rfl, j, rfl⟩
    go_wp2_with fail
    go_ret2
    exact ⟨rfl, HB.out.trans (Joins.below_draws _ _ _)⟩
  · clear h
    go_enter Tryd.func20, Tryd.ntmps20
    go_wp2_with fail
    go_ret2
    exact ⟨rfl, Below.refl _ _⟩

theorem cut_any (s : ByteArray) (w : World) (hs : s.size ≤ 1048576) (hw : w.ShapedOpen Tryd.prog) :
    Calls Tryd.prog 35 #[.string s, .string ⟨#[35]⟩] w fun e w' => ∃ a b, e = .returned (.tuple #[.string (hd s), .string a, .bool b]) ∧ ∃ n, w' = w.drewN n := by
  refine (Tryd.strings_Cut_shaped s ⟨#[35]⟩ w hw (by omega)).mono ?_
  rintro e w' ⟨rfl, n, rfl⟩
  rw [show (ByteArray.mk #[35]).data.toList = [35] from rfl, one.cut_one]
  exact ⟨_, _, rfl, n, rfl⟩

theorem isSeal_sealable (s : ByteArray) (h : isSeal s) : sealing.sealable (hd s) := by
  obtain ⟨h0, h1⟩ := h
  exact ⟨by have := hd_size s; omega, hd_free s, by rw [h1]; exact h0⟩

set_option maxHeartbeats 400000 in
theorem impl_yes (s : ByteArray) (w : World) (hs : s.size ≤ 1048576) (hw : w.ShapedOpen Tryd.prog) (ht : Lib.TabIs Tryd.prog w "internal/strconv.uint64pow10" .u64 Lib.pow10Tab) (h : isSeal s) :
    Calls Tryd.prog 18 #[.string s] w fun e w' => e = .returned (.tuple #[.string (hd s), .bool true]) ∧ Below w.heap.size w w' := by
  have HS := Lib.hid (cut_any s w hs hw)
  have HC : Hid (∀ n, Calls Tryd.prog 16 #[.string (hd s)] (w.drewN n) fun e w' => e = .returned (.tuple #[.string (sealing.sealB (hd s)), .bool true]) ∧ Below w.heap.size (w.drewN n) w') :=
    Lib.hid (fun n => sealing.impl_yes (hd s) (w.drewN n) (by have := hd_size s; omega) (World.ShapedOpen.of_heap rfl hw) ht (isSeal_sealable s h))
  have HQ := Lib.hid h.2
  clear h hw ht
  go_enter Tryd.func18, Tryd.ntmps18
  go_wp2_with fail
  refine HS.out.mono ?_
  rintro e w1 ⟨a, b, rfl, n, rfl⟩
  go_wp2_with fail
  refine (HC.out n).mono ?_
  rintro e w2 ⟨rfl, hb⟩
  rw [HQ.out]
  have HB := Lib.hid ((Joins.below_draws w.heap.size w n).trans hb)
  clear hb
  go_wp2_with fail
  go_ret2
  exact ⟨rfl, HB.out⟩

set_option maxHeartbeats 400000 in
theorem impl_no (s : ByteArray) (w : World) (hs : s.size ≤ 1048576) (hw : w.ShapedOpen Tryd.prog) (ht : Lib.TabIs Tryd.prog w "internal/strconv.uint64pow10" .u64 Lib.pow10Tab) (h : ¬ isSeal s) :
    Calls Tryd.prog 18 #[.string s] w fun e w' => e = .returned (.tuple #[.string ⟨#[]⟩, .bool false]) ∧ Below w.heap.size w w' := by
  have HS := Lib.hid (cut_any s w hs hw)
  by_cases hm : sealing.sealable (hd s)
  · have h1 : ¬ sealing.sealB (hd s) = s := fun h1 => h ⟨by rw [← h1]; exact hm.2.2, h1⟩
    have hq : ((sealing.sealB (hd s)).toList == s.toList) = false := ne_beq h1
    have HC : Hid (∀ n, Calls Tryd.prog 16 #[.string (hd s)] (w.drewN n) fun e w' => e = .returned (.tuple #[.string (sealing.sealB (hd s)), .bool true]) ∧ Below w.heap.size (w.drewN n) w') :=
      Lib.hid (fun n => sealing.impl_yes (hd s) (w.drewN n) (by have := hd_size s; omega) (World.ShapedOpen.of_heap rfl hw) ht hm)
    clear h hw ht hm h1
    go_enter Tryd.func18, Tryd.ntmps18
    go_wp2_with fail
    refine HS.out.mono ?_
    rintro e w1 ⟨a, b, rfl, n, rfl⟩
    go_wp2_with fail
    refine (HC.out n).mono ?_
    rintro e w2 ⟨rfl, hb⟩
    have HB := Lib.hid ((Joins.below_draws w.heap.size w n).trans hb)
    clear hb
    go_wp2_with fail
    go_ret2
    exact ⟨rfl, HB.out⟩
  · have HC : Hid (∀ n, Calls Tryd.prog 16 #[.string (hd s)] (w.drewN n) fun e w' => e = .returned (.tuple #[.string ⟨#[]⟩, .bool false]) ∧ Below w.heap.size (w.drewN n) w') :=
      Lib.hid (fun n => sealing.impl_no (hd s) (w.drewN n) (by have := hd_size s; omega) (World.ShapedOpen.of_heap rfl hw) ht hm)
    clear h hw ht hm
    go_enter Tryd.func18, Tryd.ntmps18
    go_wp2_with fail
    refine HS.out.mono ?_
    rintro e w1 ⟨a, b, rfl, n, rfl⟩
    go_wp2_with fail
    refine (HC.out n).mono ?_
    rintro e w2 ⟨rfl, hb⟩
    have HB := Lib.hid ((Joins.below_draws w.heap.size w n).trans hb)
    clear hb
    go_wp2_with fail
    go_ret2
    exact ⟨rfl, HB.out⟩

theorem shaped_below {P : Program} {w w' : World} (h : w.ShapedOpen P) (hb : Below w.heap.size w w') : w'.ShapedOpen P := h.keptBut (hb.frame (fun _ => False)) (fun _ h => h.elim)
theorem var_lt {P : Program} {w : World} {n : String} {cs : Array Value} {g : Nat} (h : w.var? P n = some cs) (hg : P.globalNamed n = some g) : g < w.heap.size := by
  rcases Nat.lt_or_ge g w.heap.size with h' | h'
  · exact h'
  · unfold World.var? at h
    simp [hg, Array.getElem?_eq_none h'] at h
theorem tab_below {P : Program} {w w' : World} {n : String} {k : IntKind} {zs : List Int} {g : Nat} (h : Lib.TabIs P w n k zs) (hg : P.globalNamed n = some g) (hb : Below w.heap.size w w') : Lib.TabIs P w' n k zs :=
  var?_below hb hg (var_lt h hg) h
end Go.Proofs.YthmchdohdafikaaDoor.ver
