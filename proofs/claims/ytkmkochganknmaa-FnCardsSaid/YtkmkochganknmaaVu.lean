/- A region that draws its order, with calls one behind the other and, at its end, stores of cards in any order. -/
import Derived.Test.YtkmkochganknmaaVw
namespace Go.Proofs.Ytkmkochganknmaa.cards
open Go.RowKit
open reg
set_option linter.unusedVariables false

section
variable {P : Program} {md : Region.Mode} {ops : Array Oper} {Q : Exit → Act → World → Prop} {S : World → Prop}
/-- What is left comes in any order. -/
def okS (md : Region.Mode) (ops : Array Oper) : Nat → List Nat → Array Bool → Bool
  | 0, rem, l => (rem == []) && (Region.ready md ops l == [])
  | n + 1, rem, l => (Region.ready md ops l != []) && (Region.ready md ops l).all (fun j => rem.contains j && okS md ops n (rem.erase j) (l.setIfInBounds j true))
def okA (md : Region.Mode) (ops : Array Oper) (st : List Nat) : List (Bool × Nat) → Array Bool → Bool
  | [], l => okS md ops st.length st l
  | (true, i) :: r, l => Region.free md ops l i && (Region.ready md ops l).contains i && okA md ops st r (l.setIfInBounds i true)
  | (false, i) :: r, l => (Region.ready md ops l == [i]) && okA md ops st r (l.setIfInBounds i true)
def stepS (P : Program) (ops : Array Oper) (a : Act) (J : List Nat → World → Prop) (rem : List Nat) (j : Nat) : Prop :=
  ∀ w, J rem w → ∃ o w', ops[j]? = some o ∧ o.guard = none ∧ o.dst = none ∧ (execOp a.eval o).run P w = .ok .skip w' ∧ J (rem.erase j) w'
/-- The end: the stores, what holds while some of them are still to come. -/
def endS (P : Program) (ops : Array Oper) (S : World → Prop) (Qn : Act → World → Prop) (st : List Nat) (a : Act) (w : World) : Prop :=
  ∃ J : List Nat → World → Prop, J st w ∧ (∀ rem w, J rem w → S w) ∧ (∀ rem j, j ∈ rem → stepS P ops a J rem j) ∧ ∀ w, J [] w → Qn a w
theorem stores_of {a : Act} {J : List Nat → World → Prop} (hS : ∀ rem w, J rem w → S w) (hs : ∀ rem j, j ∈ rem → stepS P ops a J rem j) (hK : ∀ w, J [] w → Q .normal a w) :
    ∀ (n : Nat) (rem : List Nat) (l : Array Bool) (w : World), okS md ops n rem l = true → J rem w → wpAnyH P md ops Q S n l a w
  | 0, rem, l, w, hok, h => by
    simp only [okS, Bool.and_eq_true, beq_iff_eq] at hok
    obtain ⟨h1, h2⟩ := hok
    subst h1
    exact wpAnyH_done h2 (hK w h) 0
  | n + 1, rem, l, w, hok, h => by
    simp only [okS, Bool.and_eq_true, bne_iff_ne, List.all_eq_true] at hok
    obtain ⟨h1, h2⟩ := hok
    refine wpAnyH_all rfl h1 fun j hj => ?_
    obtain ⟨h3, h4⟩ := h2 j hj
    obtain ⟨o, w', ho, hg, hd, hr, hJ⟩ := hs rem j (List.contains_iff_mem.1 h3) w h
    unfold wpOp
    simp only [ho, wanted_of hg, if_true]
    refine .inl ?_
    unfold Oper.wp
    rw [hr]
    refine ⟨hS _ _ hJ, ?_⟩
    rw [hd]
    exact stores_of hS hs hK n _ _ _ h4 hJ
theorem a_of {st : List Nat} (hsel : Region.noSelect ops = true) (hQ : ∀ c (d : Option Tmp) v a w, Q (.panic c) (a.put d v) w → Q (.panic c) a w) :
    ∀ (r : List (Bool × Nat)) (l : Array Bool) (a : Act) (I : World → Prop) (w : World), okA md ops st r l = true → (∀ w, I w → S w) → I w → chainW P ops S (endS P ops S (Q .normal) st) r a I → wpAnyH P md ops Q S (r.length + st.length) l a w
  | [], l, a, I, w, hok, hc, hI, h => by
    obtain ⟨J, h1, h2, h3, h4⟩ := h w hI
    rw [List.length_nil, Nat.zero_add]
    exact stores_of h2 h3 h4 _ _ _ _ hok h1
  | (true, i) :: r, l, a, I, w, hok, hc, hI, h => by
    simp only [okA, Bool.and_eq_true] at hok
    obtain ⟨⟨h1, h2⟩, h7⟩ := hok
    obtain ⟨o, v, ho, hy, hr⟩ := h
    rw [List.length_cons, show r.length + 1 + st.length = (r.length + st.length) + 1 by omega]
    exact wpAnyH_take (v := v) ho hsel h1 h2 (fun c a w => hQ c _ _ a w) hy (hc _ hI) (a_of hsel hQ r _ _ I w h7 hc hI hr)
  | (false, i) :: r, l, a, I, w, hok, hc, hI, h => by
    simp only [okA, Bool.and_eq_true, beq_iff_eq] at hok
    obtain ⟨h1, h7⟩ := hok
    obtain ⟨o, ho, hgd, hr⟩ := h
    rw [List.length_cons, show r.length + 1 + st.length = (r.length + st.length) + 1 by omega]
    refine wpAnyH_all h1 (by simp) fun j hj => ?_
    obtain rfl : j = i := by simpa using hj
    exact wpOp_uponW ho hgd (hr w hI) fun v w' ⟨I', hc', hI', hr'⟩ => ⟨hc' _ hI', a_of hsel hQ r _ _ I' w' h7 hc' hI' hr'⟩
theorem chainW_mono {K K2 : Act → World → Prop} (hK : ∀ a w, K a w → K2 a w) : ∀ (r : List (Bool × Nat)) (a : Act) (I : World → Prop), chainW P ops S K r a I → chainW P ops S K2 r a I
  | [], a, I, h => fun w hI => hK _ _ (h w hI)
  | (true, i) :: r, a, I, h => by
    obtain ⟨o, v, ho, hy, hr⟩ := h
    exact ⟨o, v, ho, hy, chainW_mono hK r _ _ hr⟩
  | (false, i) :: r, a, I, h => by
    obtain ⟨o, ho, hg, hr⟩ := h
    refine ⟨o, ho, hg, fun w hw => ?_⟩
    have h := hr w hw
    generalize (execOp a.eval o).run P w = q at h ⊢
    cases q with
    | ok n w' =>
      cases n <;> simp only [Upon] at h ⊢
      case value v => obtain ⟨I', c, j1, j2⟩ := h; exact ⟨I', c, j1, chainW_mono hK r _ _ j2⟩
      case enter f args => exact h.mono fun e w'' ⟨v, he, I', c, j1, j2⟩ => ⟨v, he, I', c, j1, chainW_mono hK r _ _ j2⟩
    | halt x w' => simp only [Upon] at h
/-- THE LAW. -/
theorem region_S {id : Nat} {a : Act} {w : World} (r : List (Bool × Nat)) (st : List Nat) (S I : World → Prop) (hm : P.follows .mixedOrders = true)
    (hok : okA .any ops st r (Array.replicate ops.size false) = true) (hlen : ops.size = r.length + st.length) (hsel : Region.noSelect ops = true) (hc : ∀ w, I w → S w) (hI : I w.drew)
    (h : chainW P ops S (endS P ops S (Q .normal) st) r a I) : (Code.region id ops true).wp P Q a w := by
  refine wp_region_noPanic (wp_region_held hm (S := S) ?_)
  have k := a_of (md := .any) (Q := NoPanic Q) (S := S) (st := st) hsel (fun _ _ _ _ _ h => h) r _ a I _ hok hc hI (chainW_mono (fun a w ⟨J, h1, h2, h3, h4⟩ => ⟨J, h1, h2, h3, fun w hw => NoPanic.normal (h4 w hw)⟩) r a I h)
  rw [← hlen] at k; exact k
end
section
variable {ops : Array Oper} {S : World → Prop} {K : Act → World → Prop}
/-- A call, what is known turns with it. -/
theorem s_call (d : Tmp) {i : Nat} {r : List (Bool × Nat)} {a : Act} {I I' : World → Prop} {f : FuncId} {args : Array Value} {v : Value} {o : Oper} (ho : ops[i]? = some o) (hd : o.dst = some d) (hg : Region.wanted o (yielded ops a.tmps) = true)
    (he : ∀ w, (execOp a.eval o).run Try.prog w = .ok (.enter f args) w) (hS : ∀ w, I' w → S w) (h : ∀ w, I w → Calls Try.prog f args w (fun e w' => e = .returned v ∧ I' w'))
    (hr : chainW Try.prog ops S K r (a.put (some d) v) I') : chainW Try.prog ops S K ((false, i) :: r) a I :=
  ⟨o, ho, hg, fun w hI => by
    rw [he]
    exact (h w hI).mono fun e w' ⟨h1, h2⟩ => ⟨v, h1, I', hS, h2, hd ▸ hr⟩⟩
abbrev cvS (x : Cd) : Array Value := #[.int .i64 x.a, .int .i64 x.b, .int .i64 x.c, .int .i64 x.d]
/-- A card is stored, as an operation that is carried out. -/
theorem exec_storeS {w : World} {g : Nat} {x : Cd} (y : Cd) (h : Box w g x) {a : Act} {o : Oper} {p q : Operand} (ho : o.op = .store 24 p q)
    (hp : a.eval p = .pointer (some ⟨g, 0, none⟩)) (hq : a.eval q = y.val) : (execOp a.eval o).run Try.prog w = .ok .skip (w.setCells g 0 (cvS y).toList) := by
  have hv : VB w g 24 (cvS x) := h
  have hr := run_storeAt_mid (P := Try.prog) w g 0 24 (cvS y) hv.there (by kernel_rfl) (by simp [Value.oneCell'])
  unfold execOp
  rw [ho]
  simp only [hp, hq]
  simp [hr, Result.andThen]
theorem box_setsS {w : World} {g : Nat} {x : Cd} (y : Cd) (h : Box w g x) : Box (w.setCells g 0 (cvS y).toList) g y := VB.stored (T := 24) (cs := cvS x) (cs2 := cvS y) h rfl
theorem grown_setsS (w : World) (g : Nat) (y : Cd) : w.grownBy (w.setCells g 0 (cvS y).toList) (some g) := grown_setsV g _ 0 w
theorem box_pastS {w : World} {g k : Nat} {x : Cd} (y : Cd) (h : Box w k x) (hk : k ≠ g) : Box (w.setCells g 0 (cvS y).toList) k x := by
  have e := (grown_setsS w g y).block k (Box.lt h) (fun e => hk (by cases e; rfl))
  unfold Box at h ⊢
  rw [e]; exact h
/-- The end of a region whose last operations each store a card into a block of its own. -/
theorem end_cards {Qn : Act → World → Prop} {a : Act} {w : World} (st : List (Nat × Nat × Cd)) (Z : World → Prop) (hZS : ∀ w, Z w → S w) (hZ : ∀ t ∈ st, ∀ w w', Z w → w.grownBy w' (some t.2.1) → Z w')
    (hop : ∀ t ∈ st, ∃ o p q, ops[t.1]? = some o ∧ o.guard = none ∧ o.dst = none ∧ o.op = .store 24 p q ∧ a.eval p = .pointer (some ⟨t.2.1, 0, none⟩) ∧ a.eval q = t.2.2.val)
    (hun : ∀ t ∈ st, ∀ u ∈ st, t.1 = u.1 → t = u) (hgd : ∀ t ∈ st, ∀ u ∈ st, t.1 ≠ u.1 → t.2.1 ≠ u.2.1) (hnd : (st.map (·.1)).Nodup)
    (hw : Z w) (hb : ∀ t ∈ st, ∃ z0, Box w t.2.1 z0) (hfin : ∀ w, Z w → (∀ t ∈ st, Box w t.2.1 t.2.2) → Qn a w) : endS Try.prog ops S Qn (st.map (·.1)) a w := by
  refine ⟨fun rem w => Z w ∧ rem.Nodup ∧ (∀ j ∈ rem, ∃ t ∈ st, t.1 = j) ∧ ∀ t ∈ st, ∃ z0, Box w t.2.1 z0 ∧ (t.1 ∉ rem → z0 = t.2.2), ⟨hw, hnd, fun j hj => by obtain ⟨t, h1, h2⟩ := List.mem_map.1 hj; exact ⟨t, h1, h2⟩, fun t ht => ?_⟩, fun rem w h => hZS w h.1, ?_, ?_⟩
  · obtain ⟨z0, hz⟩ := hb t ht
    exact ⟨z0, hz, fun h => absurd (List.mem_map.2 ⟨t, ht, rfl⟩) h⟩
  · rintro rem j hj w ⟨h1, h2, h3, h4⟩
    obtain ⟨t, ht, rfl⟩ := h3 j hj
    obtain ⟨o, p, q, e1, e2, e3, e4, e5, e6⟩ := hop t ht
    obtain ⟨z0, hz, _⟩ := h4 t ht
    refine ⟨o, _, e1, e2, e3, exec_storeS t.2.2 hz e4 e5 e6, hZ t ht _ _ h1 (grown_setsS _ _ _), h2.erase _, fun j hj => h3 j (List.mem_of_mem_erase hj), fun u hu => ?_⟩
    by_cases e : u.1 = t.1
    · obtain rfl := hun u hu t ht e
      exact ⟨_, box_setsS _ hz, fun _ => rfl⟩
    · obtain ⟨z1, hz1, hz2⟩ := h4 u hu
      exact ⟨z1, box_pastS _ hz1 (hgd u hu t ht e), fun h => hz2 (fun hm => h ((List.mem_erase_of_ne e).2 hm))⟩
  · rintro w ⟨h1, h2, h3, h4⟩
    refine hfin w h1 fun t ht => ?_
    obtain ⟨z0, hz, hz2⟩ := h4 t ht
    obtain rfl := hz2 (by simp)
    exact hz
end
end Go.Proofs.Ytkmkochganknmaa.cards
