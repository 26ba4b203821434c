/- impl.SplitString: its contract. -/
import Derived.Test.YtcjmlddpjbneiaaIter
import Derived.Maps.OwnIn
import Derived.Deep.DeepMust
import Derived.Deep.AppendLies
namespace Go.Proofs.Ytcjmlddpjbneiaa.spl
open Go.RowKit Go.Shelf
attribute [local go_sem] Oper.semAt_some

set_option maxRecDepth 100000 in
set_option maxHeartbeats 2000000 in
theorem impl_yes (s : ByteArray) (b : UInt8) (w : World) (hs : s.size ≤ 4000) :
    Calls Try.prog 9 #[.string s, .string ⟨#[b]⟩] w fun e w' => ∃ v, e = .returned (.tuple #[v, .bool true]) ∧ w'.ownsRow w.heap.size 9 1 v (cut.parts s b).length ((cut.parts s b).map Value.string) ∧ Below w.heap.size w w' := by
  obtain ⟨i0, hi, hz0, hz1, hz2⟩ := info_parts cut.info
  refine (callsIn_wide (n := 3)).1 ?_
  refine callsIn_of_wp_marks Try.func9 rfl trivial ?_ rfl
  simp only [Try.ntmps9, List.size_toArray, List.length_cons, List.length_nil, Nat.reduceAdd, Nat.reduceSub, Array.replicate_succ, Array.replicate_zero, List.push_toArray, List.append_toArray, List.nil_append, List.cons_append]
  have hsz : decide (4000 < (s.size : Int)) = false := by simp; omega
  gi_wp2_with fail
  refine ⟨trivial, ?_⟩
  refine (iter.of_in 2 s b _).mono ?_
  rintro e w' ⟨rfl, rfl⟩
  gi_wp2_with fail
  obtain ⟨W0, hW0⟩ : ∃ W0, (((w.alloc (.cells #[] 9)).alloc (.cells #[.slice (some ⟨w.heap.size, 0, none⟩) 0 0] 26)).alloc (.cells #[.string s] 9)).alloc (.cells #[.int .u8 b.toNat] 5) = W0 := ⟨_, rfl⟩
  have hsize : W0.heap.size = w.heap.size + 4 := by rw [← hW0]; simp
  have bO : Boxed W0 (w.heap.size + 1) 26 (.slice (some ⟨w.heap.size, 0, none⟩) 0 0) := by
    have h := Boxed.new (w.alloc (.cells #[] 9)) 26 (.slice (some ⟨w.heap.size, 0, none⟩) 0 0)
    rw [World.size_alloc] at h
    rw [← hW0]
    exact (h.alloc _).alloc _
  have c1 : W0.cell? ⟨w.heap.size + 2, 0, none⟩ = some (.string s) := by
    rw [← hW0, World.cell?_alloc_past _ _ _ (by simp), World.cell?_alloc_at _ _ _ _ (by simp)]; rfl
  have c2 : W0.cell? ⟨w.heap.size + 3, 0, none⟩ = some (.int .u8 b.toNat) := by
    rw [← hW0, World.cell?_alloc_at _ _ _ _ (by simp)]; rfl
  have hrow0 : W0.ownsRow w.heap.size 9 1 (.slice (some ⟨w.heap.size, 0, none⟩) 0 0) 0 [] := by
    rw [← hW0]
    exact (((World.ownsRow_made (e := 9) (size := 1) w #[] 0 (Nat.le_refl _) (by unfold maxLen; omega) rfl).alloc _).alloc _).alloc _
  have hB0 : Below w.heap.size w W0 := by
    rw [← hW0]
    exact ((((Below.refl _ w).alloc (Nat.le_refl _) _).alloc (by simp) _).alloc (by simp; omega) _).alloc (by simp; omega) _
  rw [hW0]
  clear hW0
  refine wpIn_rangeFunc_ownG (F := Fence.wide) rfl (by omega) (gf := 45) (lb := #[.pointer (some ⟨w.heap.size + 2, 0, none⟩), .pointer (some ⟨w.heap.size + 3, 0, none⟩)]) rfl trivial (enters_of Try.func45 (by kernel_rfl) rfl)
    (iter.stops 2 (by omega) (w.heap.size + 2) (w.heap.size + 3) s b (by omega) W0 (by omega) (by omega) c1 c2) iter.Two.trans (fun W l o o' hl _ _ _ => iter.Two.put o' (by omega) (by omega)) (Below.refl _ _) (fun _ => rfl)
    (fun pre W => (∃ v, Boxed W (w.heap.size + 1) 26 v ∧ W.ownsRow w.heap.size 9 1 v pre.length (pre.map Value.string) ∧ (∀ r, v.ownBlock = some r → r ≠ w.heap.size + 2 ∧ r ≠ w.heap.size + 3)) ∧ Below w.heap.size W0 W)
    (fun _ _ _ => False)
    (OwnFrom.and (Own.from (holdsRow_own w.heap.size (w.heap.size + 1) 26 9 1 (fun pre : List ByteArray => pre.length) (fun pre => pre.map Value.string) (fun pre v => ∀ r, v.ownBlock = some r → r ≠ w.heap.size + 2 ∧ r ≠ w.heap.size + 3)) _) (ownFrom_below (by omega) (by omega)))
    (fun _ _ _ _ _ hs _ _ => hs)
    ⟨⟨_, bO, hrow0, by intro r e; simp [Value.ownBlock] at e; omega⟩, Below.refl _ _⟩
    (fun x => { tmps := #[.string s, .string ⟨#[b]⟩, undef, undef, .slice none 0 0, .bool false, .pointer (some ⟨w.heap.size + 1, 0, none⟩), .string x, .string s, .int .i64 s.size, .bool false, .bool false, .string ⟨#[b]⟩, .int .i64 1, .bool false, .bool false, undef, .slice (some ⟨w.heap.size, 0, none⟩) 0 0, .string s, .string ⟨#[b]⟩, .int .u8 b.toNat, .func (.func 45) #[] #[.pointer (some ⟨w.heap.size + 2, 0, none⟩), .pointer (some ⟨w.heap.size + 3, 0, none⟩)], .string x, undef, undef, undef, undef, undef], defers := [] }) ?assign ?body ?done ?stop
  case assign =>
    intro l x W K hK
    gi_wp2
    exact hK
  case body =>
    rintro l pre x W ⟨⟨v, hv, hrow, hne⟩, hB⟩ hlt
    have hc := hv.cell
    have hsW := hB.size
    have hlW : W.heap.size < W.heap.size + 1 := by omega
    have hbx := hv.lt
    gi_wp2_with (gi_at_builtin; go_must (refine wpListIn_append_own_at _ rfl _ _ 26 rfl w.heap.size 9 i0 (.string ⟨#[]⟩) 1 16 Try.underlying26 hi hz0 hz1 hz2 rfl (by decide) _ _ _ rfl (hrow.alloc _) ⟨W.heap.size, 0, none⟩ 1 1 [.string x] rfl rfl (cell_one_new _ _ _) (by simp [Value.oneCell']) (by unfold maxLen; omega) (by omega) (by simp; omega) ?_); intro v' w1 hown' hgrow _ hat; obtain ⟨g', cap', rfl⟩ := ownsRow_succ hown'; obtain ⟨hv1, hv2, hr2, hk2, hb2⟩ := hv.appended (by decide) hrow (by omega) (by omega) hown' hgrow; have hc1 := hv1.cell; have hf1 := hv1.frozen)
    have hx1 : (W.alloc (.cells #[.string x] 9)).heap.size = W.heap.size + 1 := World.size_alloc _ _
    refine ⟨hk2.from _, ?_, ⟨_, hv2, by simpa using hr2, ?_⟩, hB.trans hb2⟩
    · constructor
      · refine (World.cell?_setCell_other _ ⟨w.heap.size + 1, 0, none⟩ ⟨w.heap.size + 2, 0, none⟩ _ (fun h => by have := congrArg Addr.block h; simp at this)).trans ?_
        exact (hgrow.cell_far ⟨w.heap.size + 2, 0, none⟩ (by rw [hx1]; show w.heap.size + 2 < _; omega) (fun e => (hne _ e.symm).1 rfl)).trans (World.cell?_alloc_past _ _ _ (by show w.heap.size + 2 < _; omega))
      · refine (World.cell?_setCell_other _ ⟨w.heap.size + 1, 0, none⟩ ⟨w.heap.size + 3, 0, none⟩ _ (fun h => by have := congrArg Addr.block h; simp at this)).trans ?_
        exact (hgrow.cell_far ⟨w.heap.size + 3, 0, none⟩ (by rw [hx1]; show w.heap.size + 3 < _; omega) (fun e => (hne _ e.symm).2 rfl)).trans (World.cell?_alloc_past _ _ _ (by show w.heap.size + 3 < _; omega))
    · intro r e
      rcases hat with h | h
      · exact hne r (h.symm.trans e)
      · have : some (W.alloc (.cells #[.string x] 9)).heap.size = some r := h.symm.trans e
        rw [hx1] at this
        have := Option.some.inj this
        omega
  case done =>
    rintro D ys W hD rfl ⟨⟨v, hv, hrow, hne⟩, hB⟩ hK
    have hc := hv.cell
    gi_wp2
    refine ⟨by simp, .inl ⟨_, _, rfl, run_takeDeferred hK, ?_⟩⟩
    exact ⟨_, results_tmp2 rfl _ _ _, v, rfl, ownsRow_putObj hrow _ hK rfl, (hB0.trans hB).trans (belowK_b (w := w) (Nat.le_refl _) W D _ _ (by omega) hK rfl rfl)⟩
  case stop =>
    rintro D c pre W _ _ h _
    exact h.elim

theorem own_nil (w : World) : (w.alloc (.cells #[] 9)).ownsRow w.heap.size 9 1 (.slice (some ⟨w.heap.size, 0, none⟩) 0 0) 0 [] :=
  World.ownsRow_made (e := 9) (size := 1) w #[] 0 (Nat.le_refl _) (by unfold maxLen; omega) rfl

/-- What both hand back. -/
def Post (xs : List ByteArray) (ok : Bool) (w : World) (e : Ending) (w' : World) : Prop :=
  ∃ v, e = .returned (.tuple #[v, .bool ok]) ∧ w'.ownsRow w.heap.size 9 1 v xs.length (xs.map Value.string) ∧ Below w.heap.size w w'
theorem post_no (w : World) : Post [] false w (.returned (.tuple #[.slice (some ⟨w.heap.size, 0, none⟩) 0 0, .bool false])) (w.alloc (.cells #[] 9)) :=
  ⟨_, rfl, own_nil w, (Below.refl _ _).alloc (Nat.le_refl _) _⟩

set_option maxHeartbeats 400000 in
theorem impl_no (s sep : ByteArray) (w : World) (hs : s.size ≤ 1048576) (h2 : sep.size ≤ 1048576) (h : ¬ (s.size ≤ 4000 ∧ sep.size = 1)) :
    Calls Try.prog 9 #[.string s, .string sep] w (Post [] false w) := by
  by_cases h0 : s.size ≤ 4000
  · have h1 : ((sep.size : Int) == 1) = false := by simp; omega
    have h1' : ((sep.size : Int) != 1) = true := by simp; omega
    clear h
    go_enter Try.func9, Try.ntmps9
    go_wp2_with fail
    go_ret2
    exact post_no w
  · clear h
    go_enter Try.func9, Try.ntmps9
    go_wp2_with fail
    go_ret2
    exact post_no w
theorem impl_post (s : ByteArray) (b : UInt8) (w : World) (hs : s.size ≤ 4000) :
    Calls Try.prog 9 #[.string s, .string ⟨#[b]⟩] w (Post (cut.parts s b) true w) := impl_yes s b w hs
theorem sep_one (sep : ByteArray) (h : sep.size = 1) : ∃ b, sep = ⟨#[b]⟩ := by
  obtain ⟨⟨l⟩⟩ := sep
  match l, h with
  | [b], _ => exact ⟨b, rfl⟩
end Go.Proofs.Ytcjmlddpjbneiaa.spl
