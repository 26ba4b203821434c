/- Games as lists: tallies, kinds of claims, laying till there is a line, claims that are made, points, leaders. -/
import Derived.Test.YtjanphcfflahkaaUc
namespace Go.Proofs.Ytjanphcfflahkaa.game
open Go.RowKit
open cards deal
set_option linter.unusedVariables false

/-- A game. -/
structure Gm where
  s : Int
  nx : Int
  l : List Cd
  sc : List Int
  wr : List Int
def Gm.d (g : Gm) : Dl := ⟨g.s, g.nx, g.l⟩
def tly1 (x : Int) : Bool := decide (0 ≤ x ∧ x ≤ 60)
def tly (l : List Int) : Bool := l.all tly1
def plN (n : Nat) : Bool := decide (1 ≤ n ∧ n ≤ 4)
noncomputable def Gm.ok (g : Gm) : Bool := plN g.sc.length && (tly g.sc && (decide (g.wr.length = g.sc.length) && (tly g.wr && g.d.ok)))
structure Gm.okP (g : Gm) : Prop where
  p1 : 1 ≤ g.sc.length
  p4 : g.sc.length ≤ 4
  ts : tly g.sc = true
  eq : g.wr.length = g.sc.length
  tw : tly g.wr = true
  d : g.d.okP
theorem Gm.ok_iff {g : Gm} : g.ok = true ↔ g.okP := by
  unfold Gm.ok plN
  simp only [Bool.and_eq_true, decide_eq_true_eq, Dl.ok_iff]
  exact ⟨fun ⟨⟨a, b⟩, c, d, e, f⟩ => ⟨a, b, c, d, e, f⟩, fun h => ⟨⟨h.p1, h.p4⟩, h.ts, h.eq, h.tw, h.d⟩⟩
theorem Gm.no {g : Gm} (h : ¬ g.okP) : g.ok = false := by
  cases hq : g.ok
  · rfl
  · exact absurd (Gm.ok_iff.1 hq) h
theorem tly_at {l : List Int} {k : Nat} {x : Int} (h : tly l = true) (hx : l[k]? = some x) : 0 ≤ x ∧ x ≤ 60 := by
  have := List.all_eq_true.1 h x (List.mem_of_getElem? hx)
  unfold tly1 at this
  exact of_decide_eq_true this
theorem tly_no {l : List Int} {k : Nat} {x : Int} (hx : l[k]? = some x) (h : ¬ (0 ≤ x ∧ x ≤ 60)) : tly l = false := by
  cases hq : tly l
  · rfl
  · exact absurd (tly_at hq hx) h
theorem tly_all {l : List Int} (h : ∀ (k : Nat) x, l[k]? = some x → 0 ≤ x ∧ x ≤ 60) : tly l = true := List.all_eq_true.2 (fun x hx => by
  obtain ⟨k, hk⟩ := List.mem_iff_getElem?.1 hx
  unfold tly1
  exact decide_eq_true (h k x hk))

/-! Kinds of claims: a claim is four numbers, the player and the three places. -/
def plc (c : Cd) : A3 := ⟨c.b, c.c, c.d⟩
def isP (n : Nat) (p : Int) : Bool := decide (0 ≤ p ∧ p < n)
def onT (n : Nat) (t : A3) : Bool := decide (0 ≤ t.a ∧ t.a < t.b ∧ t.b < t.c ∧ t.c < n)
def rightB (l : List Cd) (n : Nat) (c : Cd) : Bool := isP n c.a && has3 (lines l) (plc c)
def kind (l : List Cd) (n : Nat) (c : Cd) : Int := if rightB l n c = true then 1 else if (isP n c.a && onT l.length (plc c)) = true then 2 else 3
theorem kind_bd (l : List Cd) (n : Nat) (c : Cd) : kind l n c = 1 ∨ kind l n c = 2 ∨ kind l n c = 3 := by
  unfold kind; split
  · exact .inl rfl
  · split
    · exact .inr (.inl rfl)
    · exact .inr (.inr rfl)
theorem kind_p {l : List Cd} {n : Nat} {c : Cd} (h : kind l n c ≠ 3) : 0 ≤ c.a ∧ c.a < n := by
  unfold kind rightB isP at h
  split at h
  · rename_i h1
    rw [Bool.and_eq_true] at h1
    exact of_decide_eq_true h1.1
  · split at h
    · rename_i h1
      rw [Bool.and_eq_true] at h1
      exact of_decide_eq_true h1.1
    · exact absurd rfl h
theorem kind_1 {l : List Cd} {n : Nat} {c : Cd} (h : kind l n c = 1) : has3 (lines l) (plc c) = true := by
  unfold kind rightB at h
  split at h
  · rename_i h1
    rw [Bool.and_eq_true] at h1
    exact h1.2
  · split at h <;> omega

/-! Cards are laid till there is a line. -/
noncomputable def lu : Nat → Dl → Dl
  | 0, d => d
  | k + 1, d => @ite _ (stuckD d = true ∧ d.nx < 81) (Classical.propDecidable _) (lu k (layD d 3)) d
theorem lu_go {k : Nat} {d : Dl} (h : stuckD d = true ∧ d.nx < 81) : lu (k + 1) d = lu k (layD d 3) := by simp only [lu]; rw [if_pos h]
theorem lu_stop {k : Nat} {d : Dl} (h : ¬ (stuckD d = true ∧ d.nx < 81)) : lu k d = d := by
  cases k with
  | zero => rfl
  | succ k => simp only [lu]; rw [if_neg h]
theorem lay3_nx {d : Dl} (h : d.okP) (hn : d.nx < 81) : d.nx < (layD d 3).nx ∧ (layD d 3).nx ≤ 81 := by
  have := endD_bd (d := d) (n := 3) h.2.1.2 (by omega)
  have e : (layD d 3).nx = endD d 3 := rfl
  rw [e]
  omega
theorem lu_more : ∀ (k m : Nat) (d : Dl), d.okP → (81 - d.nx).toNat ≤ k → (81 - d.nx).toNat ≤ m → lu k d = lu m d
  | 0, m, d, h, h1, h2 => by
    rw [lu_stop (k := m) (d := d) (by have := h.2.1; omega)]; rfl
  | k + 1, 0, d, h, h1, h2 => by
    rw [lu_stop (k := k + 1) (d := d) (by have := h.2.1; omega)]; rfl
  | k + 1, m + 1, d, h, h1, h2 => by
    by_cases hc : stuckD d = true ∧ d.nx < 81
    · have := lay3_nx h hc.2
      rw [lu_go hc, lu_go hc]
      exact lu_more k m _ (lay_ok h (by omega)) (by omega) (by omega)
    · rw [lu_stop hc, lu_stop hc]
noncomputable def up (d : Dl) : Dl := lu (81 - d.nx).toNat d
theorem up_go {d : Dl} (h : d.okP) (hc : stuckD d = true ∧ d.nx < 81) : up d = up (layD d 3) := by
  have h1 := lay3_nx h hc.2
  obtain ⟨k, hk⟩ : ∃ k, (81 - d.nx).toNat = k + 1 := ⟨(81 - d.nx).toNat - 1, by omega⟩
  unfold up
  rw [hk, lu_go hc]
  exact lu_more _ _ _ (lay_ok h (by omega)) (by omega) (by omega)
theorem up_stop {d : Dl} (hc : ¬ (stuckD d = true ∧ d.nx < 81)) : up d = d := lu_stop hc
theorem lu_ok : ∀ (k : Nat) (d : Dl), d.okP → (lu k d).okP ∧ (lu k d).s = d.s
  | 0, d, h => ⟨h, rfl⟩
  | k + 1, d, h => by
    by_cases hc : stuckD d = true ∧ d.nx < 81
    · rw [lu_go hc]
      exact lu_ok k _ (lay_ok h (by omega))
    · rw [lu_stop hc]
      exact ⟨h, rfl⟩
theorem up_ok {d : Dl} (h : d.okP) : (up d).okP := (lu_ok _ d h).1
theorem up_s {d : Dl} (h : d.okP) : (up d).s = d.s := (lu_ok _ d h).2

/-! A claim is made. -/
def more (x : Int) : Int := if x + 1 < 60 then x + 1 else 60
theorem more_bd {x : Int} (h : 0 ≤ x ∧ x ≤ 60) : 0 ≤ more x ∧ more x ≤ 60 := by unfold more; split <;> omega
def bump (l : List Int) (p : Nat) : List Int := match l[p]? with
  | some x => l.set p (more x)
  | none => l
theorem bump_len (l : List Int) (p : Nat) : (bump l p).length = l.length := by unfold bump; split <;> simp
theorem bump_at {l : List Int} {p : Nat} {x : Int} (h : l[p]? = some x) : bump l p = l.set p (more x) := by unfold bump; rw [h]
theorem bump_tly {l : List Int} {p : Nat} (h : tly l = true) : tly (bump l p) = true := by
  unfold bump
  split
  · rename_i x hx
    refine tly_all (fun k y hk => ?_)
    rw [List.getElem?_set] at hk
    split at hk
    · split at hk
      · injection hk with hk; subst hk; exact more_bd (tly_at h hx)
      · cases hk
    · exact tly_at h hk
  · exact h
noncomputable def madeK (g : Gm) (c : Cd) : Int := kind (up g.d).l g.sc.length c
noncomputable def madeD (g : Gm) (c : Cd) : Dl := if madeK g c = 1 then takeD (up g.d) (plc c) else up g.d
noncomputable def madeS (g : Gm) (c : Cd) : List Int := if madeK g c = 1 then bump g.sc c.a.toNat else g.sc
noncomputable def madeW (g : Gm) (c : Cd) : List Int := if madeK g c = 2 then bump g.wr c.a.toNat else g.wr
noncomputable def made (g : Gm) (c : Cd) : Gm := ⟨(madeD g c).s, (madeD g c).nx, (madeD g c).l, madeS g c, madeW g c⟩
theorem madeK_bd (g : Gm) (c : Cd) : madeK g c = 1 ∨ madeK g c = 2 ∨ madeK g c = 3 := kind_bd _ _ _
theorem made_ok {g : Gm} {c : Cd} (h : g.okP) : (made g c).okP := by
  have hu := up_ok h.d
  have hd : (madeD g c).okP := by unfold madeD; split; exact take_ok' hu; exact hu
  have hs : (madeS g c).length = g.sc.length := by unfold madeS; split; exact bump_len _ _; rfl
  have hw : (madeW g c).length = g.wr.length := by unfold madeW; split; exact bump_len _ _; rfl
  refine ⟨by rw [show (made g c).sc = madeS g c from rfl, hs]; exact h.p1, by rw [show (made g c).sc = madeS g c from rfl, hs]; exact h.p4, ?_, by rw [show (made g c).sc = madeS g c from rfl, show (made g c).wr = madeW g c from rfl, hs, hw]; exact h.eq, ?_, hd⟩
  · show tly (madeS g c) = true
    unfold madeS; split
    · exact bump_tly h.ts
    · exact h.ts
  · show tly (madeW g c) = true
    unfold madeW; split
    · exact bump_tly h.tw
    · exact h.tw
theorem made_sc {g : Gm} {c : Cd} : (made g c).sc.length = g.sc.length := by show (madeS g c).length = _; unfold madeS; split; exact bump_len _ _; rfl

/-! Lists of claims. -/
noncomputable def runG (g : Gm) (cl : List Cd) : Nat → Gm
  | 0 => g
  | k + 1 => match cl[k]? with
    | some c => made (runG g cl k) c
    | none => runG g cl k
noncomputable def runK (g : Gm) (cl : List Cd) (k : Nat) : Int := match cl[k]? with
  | some c => madeK (runG g cl k) c
  | none => 3
noncomputable def kinds (g : Gm) (cl : List Cd) : List Int := (List.range cl.length).map (runK g cl)
theorem runG_step {g : Gm} {cl : List Cd} {k : Nat} {c : Cd} (h : cl[k]? = some c) : runG g cl (k + 1) = made (runG g cl k) c := by simp only [runG]; rw [h]
theorem runK_at {g : Gm} {cl : List Cd} {k : Nat} {c : Cd} (h : cl[k]? = some c) : runK g cl k = madeK (runG g cl k) c := by unfold runK; rw [h]
theorem runG_ok {g : Gm} {cl : List Cd} (h : g.okP) : ∀ k, (runG g cl k).okP
  | 0 => h
  | k + 1 => by
    simp only [runG]
    split
    · exact made_ok (runG_ok h k)
    · exact runG_ok h k
theorem runG_sc {g : Gm} {cl : List Cd} : ∀ k, (runG g cl k).sc.length = g.sc.length
  | 0 => rfl
  | k + 1 => by
    simp only [runG]
    split
    · rw [made_sc]; exact runG_sc k
    · exact runG_sc k
theorem runK_bd (g : Gm) (cl : List Cd) (k : Nat) : runK g cl k = 1 ∨ runK g cl k = 2 ∨ runK g cl k = 3 := by
  unfold runK; split
  · exact madeK_bd _ _
  · exact .inr (.inr rfl)
/-- How many of the first k claims were of kind q. -/
noncomputable def cnt (g : Gm) (cl : List Cd) (q : Int) : Nat → Int
  | 0 => 0
  | k + 1 => cnt g cl q k + (if runK g cl k = q then 1 else 0)
theorem cnt_bd (g : Gm) (cl : List Cd) (q : Int) : ∀ k, 0 ≤ cnt g cl q k ∧ cnt g cl q k ≤ k
  | 0 => by simp [cnt]
  | k + 1 => by
    have := cnt_bd g cl q k
    simp only [cnt]
    split <;> omega

/-! Points. -/
def pts (g : Gm) : List Int := List.zipWith (fun a b => a - b) g.sc g.wr
theorem pts_len {g : Gm} (h : g.wr.length = g.sc.length) : (pts g).length = g.sc.length := by unfold pts; rw [List.length_zipWith, h]; omega
theorem pts_at {g : Gm} {k : Nat} {a b : Int} (ha : g.sc[k]? = some a) (hb : g.wr[k]? = some b) : (pts g)[k]? = some (a - b) := by unfold pts; rw [List.getElem?_zipWith, ha, hb]
theorem pts_bd {g : Gm} (h : g.okP) {k : Nat} {x : Int} (hx : (pts g)[k]? = some x) : -60 ≤ x ∧ x ≤ 60 := by
  have hk := (List.getElem?_eq_some_iff.1 hx).1
  rw [pts_len h.eq] at hk
  have ha := List.getElem?_eq_getElem hk
  have hb := List.getElem?_eq_getElem (show k < g.wr.length by rw [h.eq]; exact hk)
  rw [pts_at ha hb] at hx
  injection hx with hx
  have := tly_at h.ts ha
  have := tly_at h.tw hb
  omega
/-- The most of the first k numbers, that of one place left out. -/
def best (l : List Int) (but : Int) : Nat → Int
  | 0 => -61
  | k + 1 => match l[k]? with
    | some x => if (k : Int) = but then best l but k else if x < best l but k then best l but k else x
    | none => best l but k
theorem best_ge {l : List Int} {but : Int} : ∀ {k j : Nat} {x : Int}, j < k → l[j]? = some x → (j : Int) ≠ but → x ≤ best l but k
  | 0, j, x, h, _, _ => by omega
  | k + 1, j, x, h, hx, hb => by
    simp only [best]
    by_cases e : j = k
    · subst e
      rw [hx]
      simp only
      rw [if_neg hb]
      split <;> omega
    · have ih := best_ge (show j < k by omega) hx hb
      split
      · split
        · exact ih
        · split <;> omega
      · exact ih
theorem best_in {l : List Int} {but : Int} : ∀ k : Nat, best l but k = -61 ∨ ∃ j x, j < k ∧ l[j]? = some x ∧ (j : Int) ≠ but ∧ best l but k = x
  | 0 => .inl rfl
  | k + 1 => by
    have ih := best_in (l := l) (but := but) k
    have keep : best l but k = -61 ∨ ∃ j x, j < k + 1 ∧ l[j]? = some x ∧ (j : Int) ≠ but ∧ best l but k = x := by
      rcases ih with h | ⟨j, x, h1, h2, h3, h4⟩
      · exact .inl h
      · exact .inr ⟨j, x, by omega, h2, h3, h4⟩
    simp only [best]
    split
    · rename_i x hx
      split
      · exact keep
      · split
        · exact keep
        · exact .inr ⟨k, x, by omega, hx, by assumption, rfl⟩
    · exact keep
/-- The most points of all but one player. -/
def bst (l : List Int) (but : Int) : Int := best l but l.length
theorem bst_lt {l : List Int} {but v : Int} (hv : -61 < v) : bst l but < v ↔ ∀ (j : Nat) x, l[j]? = some x → (j : Int) ≠ but → x < v := by
  constructor
  · intro h j x hx hb
    have := best_ge (List.getElem?_eq_some_iff.1 hx).1 hx hb
    unfold bst at h
    omega
  · intro h
    rcases best_in (l := l) (but := but) l.length with e | ⟨j, x, h1, h2, h3, h4⟩
    · unfold bst; omega
    · have := h j x h2 h3
      unfold bst; omega
/-- Places of the most points, up to place k. -/
def lead (l : List Int) (m : Int) : Nat → List Int
  | 0 => []
  | k + 1 => lead l m k ++ (if l[k]? = some m then [(k : Int)] else [])
theorem lead_len (l : List Int) (m : Int) : ∀ k, (lead l m k).length ≤ k
  | 0 => by simp [lead]
  | k + 1 => by
    have := lead_len l m k
    simp only [lead, List.length_append]
    split <;> simp <;> omega
/-- A third of the cards that are left. -/
def ahead (d : Dl) : Int := ((d.l.length : Int) + 81 - d.nx) / 3
theorem ahead_bd {d : Dl} (h : d.okP) : 0 ≤ (d.l.length : Int) + 81 - d.nx ∧ 0 ≤ ahead d ∧ ahead d ≤ 54 := by
  have h1 := h.len81
  have h2 := h.2.1
  unfold ahead
  omega
end Go.Proofs.Ytjanphcfflahkaa.game
