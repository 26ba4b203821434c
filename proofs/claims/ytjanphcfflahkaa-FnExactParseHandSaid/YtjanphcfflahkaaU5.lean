/- A card's text read: the program's parseCard, the model's l2Read. -/
import Derived.Test.YtjanphcfflahkaaC2
import Derived.Test.YtjanphcfflahkaaVx
import Derived.IntWalk
namespace Go.Proofs.Ytjanphcfflahkaa.cards
open Go.RowKit
set_option linter.unusedVariables false

def byteOk (b : UInt8) : Bool := decide (48 ≤ b.toNat ∧ b.toNat ≤ 50)
/-- A card's text as a card. -/
def readC (s : ByteArray) : Cd × Bool := match s.data.toList with
  | [a, b, c, d] => if (byteOk a && byteOk b && byteOk c && byteOk d) = true then (⟨(a.toNat : Int) - 48, (b.toNat : Int) - 48, (c.toNat : Int) - 48, (d.toNat : Int) - 48⟩, true) else (zero, false)
  | _ => (zero, false)
theorem readC_no {s : ByteArray} (h : s.size ≠ 4) : readC s = (zero, false) := by
  unfold readC
  split
  · rename_i a b c d e
    have : s.data.toList.length = 4 := by rw [e]; rfl
    exact absurd (by simpa using this) h
  · rfl
theorem four_bytes {s : ByteArray} (h : s.size = 4) : ∃ a b c d : UInt8, s = ⟨#[a, b, c, d]⟩ := by
  obtain ⟨⟨l⟩⟩ := s
  match l, h with
  | [a, b, c, d], _ => exact ⟨a, b, c, d, rfl⟩
theorem readC_four (a b c d : UInt8) : readC ⟨#[a, b, c, d]⟩ = if (byteOk a && byteOk b && byteOk c && byteOk d) = true then (⟨(a.toNat : Int) - 48, (b.toNat : Int) - 48, (c.toNat : Int) - 48, (d.toNat : Int) - 48⟩, true) else (zero, false) := rfl
theorem read_ok (a b c d : UInt8) : (Cd.mk ((a.toNat : Int) - 48) ((b.toNat : Int) - 48) ((c.toNat : Int) - 48) ((d.toNat : Int) - 48)).ok = (byteOk a && byteOk b && byteOk c && byteOk d) := by
  unfold Cd.ok byteOk
  rw [Bool.eq_iff_iff]
  simp
  omega

set_option maxRecDepth 100000 in
set_option maxHeartbeats 4000000 in
theorem parse_card (s : ByteArray) (w : World) :
    Calls Try.prog 60 #[.string s] w fun e w' => e = .returned (.tuple #[(readC s).1.val, .bool (readC s).2]) ∧ Below w.heap.size w w' := by
  by_cases h4 : s.size = 4
  · obtain ⟨a, b, c, d, rfl⟩ := four_bytes h4
    have HT := Lib.hid (readC_four a b c d)
    have HO := Lib.hid (read_ok a b c d)
    have HI := Lib.hid (fun w => is_card (Cd.mk ((a.toNat : Int) - 48) ((b.toNat : Int) - 48) ((c.toNat : Int) - 48) ((d.toNat : Int) - 48)) w)
    have hb : ∀ q : UInt8, (0 : Int) ≤ (q.toNat : Int) ∧ (q.toNat : Int) ≤ 255 := fun q => by have := q.toNat_lt; omega
    obtain ⟨a0, a1⟩ := hb a
    obtain ⟨b0, b1⟩ := hb b
    obtain ⟨c0, c1⟩ := hb c
    obtain ⟨d0, d1⟩ := hb d
    have i0 : ∀ h, (⟨#[a, b, c, d]⟩ : ByteArray)[0]'h = a := fun _ => rfl
    have i1 : ∀ h, (⟨#[a, b, c, d]⟩ : ByteArray)[1]'h = b := fun _ => rfl
    have i2 : ∀ h, (⟨#[a, b, c, d]⟩ : ByteArray)[2]'h = c := fun _ => rfl
    have i3 : ∀ h, (⟨#[a, b, c, d]⟩ : ByteArray)[3]'h = d := fun _ => rfl
    obtain ⟨y, hy⟩ : ∃ y : Cd, Cd.mk ((a.toNat : Int) - 48) ((b.toNat : Int) - 48) ((c.toNat : Int) - 48) ((d.toNat : Int) - 48) = y := ⟨_, rfl⟩
    have ya : (a.toNat : Int) - 48 = y.a := by rw [← hy]
    have yb : (b.toNat : Int) - 48 = y.b := by rw [← hy]
    have yc : (c.toNat : Int) - 48 = y.c := by rw [← hy]
    have yd : (d.toNat : Int) - 48 = y.d := by rw [← hy]
    rw [hy] at HT HO HI
    rw [← HO.out] at HT
    obtain ⟨s, hs2⟩ : ∃ s : ByteArray, (⟨#[a, b, c, d]⟩ : ByteArray) = s := ⟨_, rfl⟩
    rw [hs2] at HT
    have HRd : Hid ((readC (⟨#[a, b, c, d]⟩ : ByteArray)) = if y.ok = true then (y, true) else (zero, false)) := Lib.hid (by rw [hs2]; exact HT.out)
    clear hb h4 hy hs2 HT
    go_enter Try.func60, Try.ntmps60
    go_wp2_with fail
    refine wp_loop_rounds 5 ?_
    rw [rounds_succ]
    go_wp2_with fail
    try simp only [i0]
    rw [rounds_succ]
    go_wp2_with fail
    try simp only [i1]
    rw [rounds_succ]
    go_wp2_with fail
    try simp only [i2]
    rw [rounds_succ]
    go_wp2_with fail
    try simp only [i3]
    rw [rounds_succ]
    go_wp2_with fail
    go_wp2_with fail
    refine ((HI.out _)).mono ?_
    rintro e w1 ⟨rfl, b⟩
    have Sw1 := Lib.hid b.size
    have HB := Lib.hid (chain0 (w := w) (by repeat (first | with_reducible exact Below.refl _ _ | with_reducible exact HB.out | with_reducible apply Below.drew | with_reducible apply bdN | with_reducible refine Below.alloc ?_ (by first | exact Nat.le_refl _ | with_reducible exact HB.out.size | omega | (simp; done) | (simp; omega) | (have := HB.out.size; simp at *; omega)) _ | with_reducible refine Below.setCell ?_ (by first | exact Nat.le_refl _ | with_reducible exact HB.out.size | omega | (simp; done) | (simp; omega) | (have := HB.out.size; simp at *; omega)) _)) b)
    have K2 : Hid (Box _ (w.heap.size) (zero)) := Lib.hid (Box.below (by repeat (first | with_reducible exact K2.out | with_reducible apply Box.drewN | with_reducible apply Box.drew | (with_reducible refine Box.newAt ?_ ?_ <;> first | (simp; done) | rfl) | with_reducible apply Box.alloc)) b)
    have K4 : Hid (Box _ (w.heap.size + 1) (y)) := Lib.hid (Box.below (by repeat (first | with_reducible exact K4.out | with_reducible apply Box.drewN | with_reducible apply Box.drew | (with_reducible refine Box.newAt ?_ ?_ <;> first | (simp; done) | rfl) | with_reducible apply Box.alloc)) b)
    try clear k2a k2b k2c k2d k2z
    have k2z := K2.out.lt
    obtain ⟨k2a, k2b, k2c, k2d⟩ := K2.out.cell
    try clear k2f
    have k2f := K2.out.frozen
    try clear k4a k4b k4c k4d k4z
    have k4z := K4.out.lt
    obtain ⟨k4a, k4b, k4c, k4d⟩ := K4.out.cell
    clear b
    cases hok : y.ok
    · rw [hok] at HRd
      have HZ := Lib.hid (HRd.out.trans (if_neg (by simp)))
      go_wp2_with fail
      rw [HZ.out]
      exact bodyPost_ret (v := .tuple #[zero.val, .bool false]) (by simp [results, Try.results60, go_sem, *]) rfl ⟨rfl, by repeat (first | with_reducible exact Below.refl _ _ | with_reducible exact HB.out | with_reducible apply Below.drew | with_reducible apply bdN | with_reducible refine Below.alloc ?_ (by first | exact Nat.le_refl _ | with_reducible exact HB.out.size | omega | (simp; done) | (simp; omega) | (have := HB.out.size; simp at *; omega)) _ | with_reducible refine Below.setCell ?_ (by first | exact Nat.le_refl _ | with_reducible exact HB.out.size | omega | (simp; done) | (simp; omega) | (have := HB.out.size; simp at *; omega)) _)⟩
    · rw [hok] at HRd
      have HZ := Lib.hid (HRd.out.trans (if_pos rfl))
      go_wp2_with fail
      rw [HZ.out]
      exact bodyPost_ret (v := .tuple #[y.val, .bool true]) (by simp [results, Try.results60, go_sem, *]) rfl ⟨rfl, by repeat (first | with_reducible exact Below.refl _ _ | with_reducible exact HB.out | with_reducible apply Below.drew | with_reducible apply bdN | with_reducible refine Below.alloc ?_ (by first | exact Nat.le_refl _ | with_reducible exact HB.out.size | omega | (simp; done) | (simp; omega) | (have := HB.out.size; simp at *; omega)) _ | with_reducible refine Below.setCell ?_ (by first | exact Nat.le_refl _ | with_reducible exact HB.out.size | omega | (simp; done) | (simp; omega) | (have := HB.out.size; simp at *; omega)) _)⟩
  · have HT := Lib.hid (readC_no h4)
    have hd : ((s.size : Int) != 4) = true := by simp; omega
    clear h4
    go_enter Try.func60, Try.ntmps60
    go_wp2_with fail
    rw [HT.out]
    exact bodyPost_ret (v := .tuple #[zero.val, .bool false]) (by simp [results, Try.results60, go_sem, *]) rfl ⟨rfl, by repeat (first | with_reducible exact Below.refl _ _ | with_reducible exact HB.out | with_reducible apply Below.drew | with_reducible apply bdN | with_reducible refine Below.alloc ?_ (by first | exact Nat.le_refl _ | with_reducible exact HB.out.size | omega | (simp; done) | (simp; omega) | (have := HB.out.size; simp at *; omega)) _ | with_reducible refine Below.setCell ?_ (by first | exact Nat.le_refl _ | with_reducible exact HB.out.size | omega | (simp; done) | (simp; omega) | (have := HB.out.size; simp at *; omega)) _)⟩
set_option maxRecDepth 100000 in
set_option maxHeartbeats 8000000 in
theorem l2_read (s : ByteArray) (w : World) :
    Calls Try.prog 58 #[.string s] w fun e w' => e = .returned (.tuple #[(readC s).1.val, .bool (readC s).2]) ∧ Below w.heap.size w w' := by
  by_cases h4 : s.size = 4
  · obtain ⟨a, b, c, d, rfl⟩ := four_bytes h4
    have HT := Lib.hid (readC_four a b c d)
    have hb : ∀ q : UInt8, (0 : Int) ≤ (q.toNat : Int) ∧ (q.toNat : Int) ≤ 255 := fun q => by have := q.toNat_lt; omega
    obtain ⟨a0, a1⟩ := hb a
    obtain ⟨b0, b1⟩ := hb b
    obtain ⟨c0, c1⟩ := hb c
    obtain ⟨d0, d1⟩ := hb d
    have i0 : ∀ h, (⟨#[a, b, c, d]⟩ : ByteArray)[0]'h = a := fun _ => rfl
    have i1 : ∀ h, (⟨#[a, b, c, d]⟩ : ByteArray)[1]'h = b := fun _ => rfl
    have i2 : ∀ h, (⟨#[a, b, c, d]⟩ : ByteArray)[2]'h = c := fun _ => rfl
    have i3 : ∀ h, (⟨#[a, b, c, d]⟩ : ByteArray)[3]'h = d := fun _ => rfl
    obtain ⟨y, hy⟩ : ∃ y : Cd, Cd.mk ((a.toNat : Int) - 48) ((b.toNat : Int) - 48) ((c.toNat : Int) - 48) ((d.toNat : Int) - 48) = y := ⟨_, rfl⟩
    have ya : (a.toNat : Int) - 48 = y.a := by rw [← hy]
    have yb : (b.toNat : Int) - 48 = y.b := by rw [← hy]
    have yc : (c.toNat : Int) - 48 = y.c := by rw [← hy]
    have yd : (d.toNat : Int) - 48 = y.d := by rw [← hy]
    rw [hy] at HT
    clear hb h4 hy
    go_enter Try.func58, Try.ntmps58
    go_wp2_with fail
    refine wp_loop_rounds 5 ?_
    by_cases ha : (a.toNat : Int) < 48
    · have HZ : Hid (readC (⟨#[a, b, c, d]⟩ : ByteArray) = (zero, false)) := Lib.hid (by rw [HT.out, if_neg (by unfold byteOk; simp; omega)])
      clear HT
      rw [rounds_succ]
      go_wp2_with fail
      try simp only [i0]
      try go_wp2_with fail
      rw [HZ.out]
      exact bodyPost_ret (v := .tuple #[zero.val, .bool false]) (by simp [results, Try.results58, go_sem, *]) rfl ⟨rfl, by repeat (first | with_reducible exact Below.refl _ _ | with_reducible exact HB.out | with_reducible apply Below.drew | with_reducible apply bdN | with_reducible refine Below.alloc ?_ (by first | exact Nat.le_refl _ | with_reducible exact HB.out.size | omega | (simp; done) | (simp; omega) | (have := HB.out.size; simp at *; omega)) _ | with_reducible refine Below.setCell ?_ (by first | exact Nat.le_refl _ | with_reducible exact HB.out.size | omega | (simp; done) | (simp; omega) | (have := HB.out.size; simp at *; omega)) _)⟩
    · by_cases ga : (50 : Int) < a.toNat
      · have HZ : Hid (readC (⟨#[a, b, c, d]⟩ : ByteArray) = (zero, false)) := Lib.hid (by rw [HT.out, if_neg (by unfold byteOk; simp; omega)])
        clear HT
        rw [rounds_succ]
        go_wp2_with fail
        try simp only [i0]
        try go_wp2_with fail
        rw [HZ.out]
        exact bodyPost_ret (v := .tuple #[zero.val, .bool false]) (by simp [results, Try.results58, go_sem, *]) rfl ⟨rfl, by repeat (first | with_reducible exact Below.refl _ _ | with_reducible exact HB.out | with_reducible apply Below.drew | with_reducible apply bdN | with_reducible refine Below.alloc ?_ (by first | exact Nat.le_refl _ | with_reducible exact HB.out.size | omega | (simp; done) | (simp; omega) | (have := HB.out.size; simp at *; omega)) _ | with_reducible refine Below.setCell ?_ (by first | exact Nat.le_refl _ | with_reducible exact HB.out.size | omega | (simp; done) | (simp; omega) | (have := HB.out.size; simp at *; omega)) _)⟩
      · rw [rounds_succ]
        go_wp2_with fail
        try simp only [i0]
        by_cases hb : (b.toNat : Int) < 48
        · have HZ : Hid (readC (⟨#[a, b, c, d]⟩ : ByteArray) = (zero, false)) := Lib.hid (by rw [HT.out, if_neg (by unfold byteOk; simp; omega)])
          clear HT
          rw [rounds_succ]
          go_wp2_with fail
          try simp only [i1]
          try go_wp2_with fail
          rw [HZ.out]
          exact bodyPost_ret (v := .tuple #[zero.val, .bool false]) (by simp [results, Try.results58, go_sem, *]) rfl ⟨rfl, by repeat (first | with_reducible exact Below.refl _ _ | with_reducible exact HB.out | with_reducible apply Below.drew | with_reducible apply bdN | with_reducible refine Below.alloc ?_ (by first | exact Nat.le_refl _ | with_reducible exact HB.out.size | omega | (simp; done) | (simp; omega) | (have := HB.out.size; simp at *; omega)) _ | with_reducible refine Below.setCell ?_ (by first | exact Nat.le_refl _ | with_reducible exact HB.out.size | omega | (simp; done) | (simp; omega) | (have := HB.out.size; simp at *; omega)) _)⟩
        · by_cases gb : (50 : Int) < b.toNat
          · have HZ : Hid (readC (⟨#[a, b, c, d]⟩ : ByteArray) = (zero, false)) := Lib.hid (by rw [HT.out, if_neg (by unfold byteOk; simp; omega)])
            clear HT
            rw [rounds_succ]
            go_wp2_with fail
            try simp only [i1]
            try go_wp2_with fail
            rw [HZ.out]
            exact bodyPost_ret (v := .tuple #[zero.val, .bool false]) (by simp [results, Try.results58, go_sem, *]) rfl ⟨rfl, by repeat (first | with_reducible exact Below.refl _ _ | with_reducible exact HB.out | with_reducible apply Below.drew | with_reducible apply bdN | with_reducible refine Below.alloc ?_ (by first | exact Nat.le_refl _ | with_reducible exact HB.out.size | omega | (simp; done) | (simp; omega) | (have := HB.out.size; simp at *; omega)) _ | with_reducible refine Below.setCell ?_ (by first | exact Nat.le_refl _ | with_reducible exact HB.out.size | omega | (simp; done) | (simp; omega) | (have := HB.out.size; simp at *; omega)) _)⟩
          · rw [rounds_succ]
            go_wp2_with fail
            try simp only [i1]
            by_cases hc : (c.toNat : Int) < 48
            · have HZ : Hid (readC (⟨#[a, b, c, d]⟩ : ByteArray) = (zero, false)) := Lib.hid (by rw [HT.out, if_neg (by unfold byteOk; simp; omega)])
              clear HT
              rw [rounds_succ]
              go_wp2_with fail
              try simp only [i2]
              try go_wp2_with fail
              rw [HZ.out]
              exact bodyPost_ret (v := .tuple #[zero.val, .bool false]) (by simp [results, Try.results58, go_sem, *]) rfl ⟨rfl, by repeat (first | with_reducible exact Below.refl _ _ | with_reducible exact HB.out | with_reducible apply Below.drew | with_reducible apply bdN | with_reducible refine Below.alloc ?_ (by first | exact Nat.le_refl _ | with_reducible exact HB.out.size | omega | (simp; done) | (simp; omega) | (have := HB.out.size; simp at *; omega)) _ | with_reducible refine Below.setCell ?_ (by first | exact Nat.le_refl _ | with_reducible exact HB.out.size | omega | (simp; done) | (simp; omega) | (have := HB.out.size; simp at *; omega)) _)⟩
            · by_cases gc : (50 : Int) < c.toNat
              · have HZ : Hid (readC (⟨#[a, b, c, d]⟩ : ByteArray) = (zero, false)) := Lib.hid (by rw [HT.out, if_neg (by unfold byteOk; simp; omega)])
                clear HT
                rw [rounds_succ]
                go_wp2_with fail
                try simp only [i2]
                try go_wp2_with fail
                rw [HZ.out]
                exact bodyPost_ret (v := .tuple #[zero.val, .bool false]) (by simp [results, Try.results58, go_sem, *]) rfl ⟨rfl, by repeat (first | with_reducible exact Below.refl _ _ | with_reducible exact HB.out | with_reducible apply Below.drew | with_reducible apply bdN | with_reducible refine Below.alloc ?_ (by first | exact Nat.le_refl _ | with_reducible exact HB.out.size | omega | (simp; done) | (simp; omega) | (have := HB.out.size; simp at *; omega)) _ | with_reducible refine Below.setCell ?_ (by first | exact Nat.le_refl _ | with_reducible exact HB.out.size | omega | (simp; done) | (simp; omega) | (have := HB.out.size; simp at *; omega)) _)⟩
              · rw [rounds_succ]
                go_wp2_with fail
                try simp only [i2]
                by_cases hd : (d.toNat : Int) < 48
                · have HZ : Hid (readC (⟨#[a, b, c, d]⟩ : ByteArray) = (zero, false)) := Lib.hid (by rw [HT.out, if_neg (by unfold byteOk; simp; omega)])
                  clear HT
                  rw [rounds_succ]
                  go_wp2_with fail
                  try simp only [i3]
                  try go_wp2_with fail
                  rw [HZ.out]
                  exact bodyPost_ret (v := .tuple #[zero.val, .bool false]) (by simp [results, Try.results58, go_sem, *]) rfl ⟨rfl, by repeat (first | with_reducible exact Below.refl _ _ | with_reducible exact HB.out | with_reducible apply Below.drew | with_reducible apply bdN | with_reducible refine Below.alloc ?_ (by first | exact Nat.le_refl _ | with_reducible exact HB.out.size | omega | (simp; done) | (simp; omega) | (have := HB.out.size; simp at *; omega)) _ | with_reducible refine Below.setCell ?_ (by first | exact Nat.le_refl _ | with_reducible exact HB.out.size | omega | (simp; done) | (simp; omega) | (have := HB.out.size; simp at *; omega)) _)⟩
                · by_cases gd : (50 : Int) < d.toNat
                  · have HZ : Hid (readC (⟨#[a, b, c, d]⟩ : ByteArray) = (zero, false)) := Lib.hid (by rw [HT.out, if_neg (by unfold byteOk; simp; omega)])
                    clear HT
                    rw [rounds_succ]
                    go_wp2_with fail
                    try simp only [i3]
                    try go_wp2_with fail
                    rw [HZ.out]
                    exact bodyPost_ret (v := .tuple #[zero.val, .bool false]) (by simp [results, Try.results58, go_sem, *]) rfl ⟨rfl, by repeat (first | with_reducible exact Below.refl _ _ | with_reducible exact HB.out | with_reducible apply Below.drew | with_reducible apply bdN | with_reducible refine Below.alloc ?_ (by first | exact Nat.le_refl _ | with_reducible exact HB.out.size | omega | (simp; done) | (simp; omega) | (have := HB.out.size; simp at *; omega)) _ | with_reducible refine Below.setCell ?_ (by first | exact Nat.le_refl _ | with_reducible exact HB.out.size | omega | (simp; done) | (simp; omega) | (have := HB.out.size; simp at *; omega)) _)⟩
                  · rw [rounds_succ]
                    go_wp2_with fail
                    try simp only [i3]
                    have HZ : Hid (readC (⟨#[a, b, c, d]⟩ : ByteArray) = (y, true)) := Lib.hid (by rw [HT.out, if_pos (by unfold byteOk; simp; omega)])
                    clear HT
                    rw [rounds_succ]
                    go_wp2_with fail
                    rw [HZ.out]
                    exact bodyPost_ret (v := .tuple #[y.val, .bool true]) (by simp [results, Try.results58, go_sem, *]) rfl ⟨rfl, by repeat (first | with_reducible exact Below.refl _ _ | with_reducible exact HB.out | with_reducible apply Below.drew | with_reducible apply bdN | with_reducible refine Below.alloc ?_ (by first | exact Nat.le_refl _ | with_reducible exact HB.out.size | omega | (simp; done) | (simp; omega) | (have := HB.out.size; simp at *; omega)) _ | with_reducible refine Below.setCell ?_ (by first | exact Nat.le_refl _ | with_reducible exact HB.out.size | omega | (simp; done) | (simp; omega) | (have := HB.out.size; simp at *; omega)) _)⟩
  · have HT := Lib.hid (readC_no h4)
    have hd : ((s.size : Int) != 4) = true := by simp; omega
    clear h4
    go_enter Try.func58, Try.ntmps58
    go_wp2_with fail
    rw [HT.out]
    exact bodyPost_ret (v := .tuple #[zero.val, .bool false]) (by simp [results, Try.results58, go_sem, *]) rfl ⟨rfl, by repeat (first | with_reducible exact Below.refl _ _ | with_reducible exact HB.out | with_reducible apply Below.drew | with_reducible apply bdN | with_reducible refine Below.alloc ?_ (by first | exact Nat.le_refl _ | with_reducible exact HB.out.size | omega | (simp; done) | (simp; omega) | (have := HB.out.size; simp at *; omega)) _ | with_reducible refine Below.setCell ?_ (by first | exact Nat.le_refl _ | with_reducible exact HB.out.size | omega | (simp; done) | (simp; omega) | (have := HB.out.size; simp at *; omega)) _)⟩
end Go.Proofs.Ytjanphcfflahkaa.cards
