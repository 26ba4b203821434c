/- The lines of a list with a place: the model's. -/
import Derived.Test.YtnibkipepmakgaaZc
namespace Go.Proofs.Ytnibkipepmakgaa.parting
open Go.RowKit
open cards maps
set_option linter.unusedVariables false

def withP (l : List A3) (i : Int) : List A3 := l.filter (fun x => inL x i)
theorem withP_len (l : List A3) (i : Int) : (withP l i).length ≤ l.length := List.length_filter_le _ _
theorem withP_yes {l : List A3} {i : Int} {k : Nat} {x : A3} (hx : l[k]? = some x) (h : inL x i = true) : withP (l.take (k + 1)) i = withP (l.take k) i ++ [x] := by
  unfold withP; rw [take_snoc hx, List.filter_append]; simp [h]
theorem withP_no {l : List A3} {i : Int} {k : Nat} {x : A3} (hx : l[k]? = some x) (h : inL x i = false) : withP (l.take (k + 1)) i = withP (l.take k) i := by
  unfold withP; rw [take_snoc hx, List.filter_append]; simp [h]

set_option maxRecDepth 100000 in
set_option maxHeartbeats 4000000 in
theorem l7_at (l : List A3) (i : Int) (p : Option Addr) (n c : Nat) (w : World) (hn : l.length = n) (hl : n ≤ 100000000) (hr : Rd w p (A3.flat l)) :
    Calls Try.prog 26 #[.slice p n c, .int .i64 i] w fun e w' => ∃ u, e = .returned u ∧ OwnA3 w' w.heap.size u (withP l i) ∧ Below w.heap.size w w' := by
  have HN := Lib.hid hn
  have HR := Lib.hid hr
  clear hn hr
  go_enter Try.func26, Try.ntmps26
  go_wp2_with fail
  go_loopw [5, 6, 7] (fun v z _ wr => ∃ k : Nat, k ≤ n ∧ z = .int .i64 k ∧ Hid (OwnA3 wr w.heap.size v (withP (l.take k) i)) ∧ Hid (Below w.heap.size w wr)) (fun _ z _ _ => n - (intOf z).toNat)
  case atStart => exact ⟨0, Nat.zero_le _, rfl, Lib.hid (OwnA3.empty _ _ (Nat.le_refl _)), Lib.hid ((Below.refl _ _).alloc (Nat.le_refl _) _)⟩
  case round =>
    obtain ⟨k, hk, rfl, HO, HB⟩ := hrel
    have HSz := Lib.hid HB.out.size
    by_cases hlt : k < n
    · obtain ⟨b, o, x, rfl, hb, hx, c0, c1, c2⟩ := (HR.out.below HB.out).aA3 (k := k) (by rw [HN.out]; exact hlt)
      have HX := Lib.hid hx
      have hgl : (withP (l.take k) i).length ≤ 100000000 := by have := withP_len (l.take k) i; simp at this; omega
      have HGl := Lib.hid hgl
      have m0 : (0 : Int) ≤ (k : Int) := by omega
      have m1 : (k : Int) < (n : Int) := by omega
      clear hx hgl
      have HO2 := Lib.hid (HO.out.alloc (A3.obj x))
      have HB2 : Hid (Below w.heap.size w (wr.alloc (A3.obj x))) := Lib.hid (HB.out.alloc HSz.out _)
      have HSz2 := Lib.hid HB2.out.size
      have HK := Lib.hid ((TBox.newAt (w := wr) rfl rfl : TBox (wr.alloc (A3.obj x)) wr.heap.size x))
      cases hq : inL x i
      · have HG := Lib.hid (withP_no HX.out hq)
        have hne := of_decide_eq_false hq
        have n1 : (x.a == i) = false := by simp; omega
        have n2 : (x.b == i) = false := by simp; omega
        have n3 : (x.c == i) = false := by simp; omega
        clear hne hq
        go_wp2_with fail
        go_roundw
        case rel => exact ⟨k + 1, by omega, by go_num, by rw [HG.out]; exact HO2, HB2⟩
        case measure => simp [intOf]; omega
      · have HG := Lib.hid (withP_yes HX.out hq)
        have hne := of_decide_eq_true hq
        clear hq
        by_cases e1 : x.a = i
        · have n1 : (x.a == i) = true := by simp [e1]
          clear hne e1
          go_wp2_with (at_builtin; refine append_A3 rfl (.tmp 35) (.tmp 37) rfl w.heap.size _ (withP (l.take k) i) x _ (wr.heap.size + 1) (by simp) rfl rfl HO2.out (by have := HGl.out; omega) HSz2.out ?_; intro v1 w4 hO1 hB1)
          rw [← HG.out] at hO1
          go_roundw
          case rel => exact ⟨k + 1, by omega, by go_num, hO1, HB2.out.trans hB1⟩
          case measure => simp [intOf]; omega
        · have n1 : (x.a == i) = false := by simp [e1]
          by_cases e2 : x.b = i
          · have n2 : (x.b == i) = true := by simp [e2]
            clear hne e1 e2
            go_wp2_with (at_builtin; refine append_A3 rfl (.tmp 35) (.tmp 37) rfl w.heap.size _ (withP (l.take k) i) x _ (wr.heap.size + 1) (by simp) rfl rfl HO2.out (by have := HGl.out; omega) HSz2.out ?_; intro v1 w4 hO1 hB1)
            rw [← HG.out] at hO1
            go_roundw
            case rel => exact ⟨k + 1, by omega, by go_num, hO1, HB2.out.trans hB1⟩
            case measure => simp [intOf]; omega
          · have n2 : (x.b == i) = false := by simp [e2]
            have n3 : (x.c == i) = true := by simp; omega
            clear hne e1 e2
            go_wp2_with (at_builtin; refine append_A3 rfl (.tmp 35) (.tmp 37) rfl w.heap.size _ (withP (l.take k) i) x _ (wr.heap.size + 1) (by simp) rfl rfl HO2.out (by have := HGl.out; omega) HSz2.out ?_; intro v1 w4 hO1 hB1)
            rw [← HG.out] at hO1
            go_roundw
            case rel => exact ⟨k + 1, by omega, by go_num, hO1, HB2.out.trans hB1⟩
            case measure => simp [intOf]; omega
    · obtain rfl : k = n := by omega
      have hfin : l.take k = l := by rw [← HN.out, List.take_length]
      rw [hfin] at HO
      clear hfin
      go_wp2_with fail
      go_ret
      exact ⟨_, rfl, HO.out, HB.out⟩
end Go.Proofs.Ytnibkipepmakgaa.parting
