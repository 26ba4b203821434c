/- Merged texts: Gj, Gf. -/
import Derived.Test.YteccbcbijfcpmaaVz
import Derived.Test.YteccbcbijfcpmaaGe
import Derived.Test.YteccbcbijfcpmaaUa
/- A region that draws its order: operations that only read, then some that make memory in ANY order (each by its own word on what it makes), then the rest, one behind the other. ONE walk serves all orders. -/
namespace Go.Proofs.Yteccbcbijfcpmaa.cards
open Go.RowKit
open reg
set_option linter.unusedVariables false

section
variable {P : Program} {md : Region.Mode} {ops : Array Oper} {Q : Exit → Act → World → Prop} {S : World → Prop}
theorem Upon.imp {R R2 : Value → World → Prop} {q : Result Next} (h : Upon P R q) (hi : ∀ v w, R v w → R2 v w) : Upon P R2 q := by
  cases q with
  | ok n w' =>
    cases n <;> simp only [Upon] at h ⊢
    case value v => exact hi _ _ h
    case enter f args => exact h.mono fun e w'' ⟨v, he, hr⟩ => ⟨v, he, hi _ _ hr⟩
  | halt x w' => simp only [Upon] at h
theorem Upon.enter {R : Value → World → Prop} {q : Result Next} {f : FuncId} {args : Array Value} {w : World} (h : q = .ok (.enter f args) w) (hc : Calls P f args w (fun e w' => ∃ v, e = .returned v ∧ R v w')) : Upon P R q := by subst h; exact hc
def okJ (md : Region.Mode) (ops : Array Oper) (st : List Nat) : Nat → List Nat → Array Bool → Bool
  | 0, rem, l => (rem == []) && seqS md ops st l
  | n + 1, rem, l => (Region.ready md ops l != []) && (Region.ready md ops l).all (fun j => rem.contains j && okJ md ops st n (rem.erase j) (l.setIfInBounds j true))
def okPJ (md : Region.Mode) (ops : Array Oper) (js st : List Nat) : List Nat → Array Bool → Bool
  | [], l => okJ md ops st js.length js l
  | i :: r, l => Region.free md ops l i && (Region.ready md ops l).contains i && okPJ md ops js st r (l.setIfInBounds i true)
theorem jobs_of {st : List Nat} {J : List Nat → Act → World → Prop} (hS : ∀ rem a w, J rem a w → S w)
    (hs : ∀ rem j a w, j ∈ rem → J rem a w → ∃ o, ops[j]? = some o ∧ o.guard = none ∧ Upon P (fun v w' => J (rem.erase j) (a.put o.dst v) w') ((execOp a.eval o).run P w))
    (hK : ∀ a w, J [] a w → runsS P ops S (Q .normal) st a w) :
    ∀ (n : Nat) (rem : List Nat) (l : Array Bool) (a : Act) (w : World), okJ md ops st n rem l = true → J rem a w → wpAnyH P md ops Q S (n + st.length) l a w
  | 0, rem, l, a, w, hok, h => by
    simp only [okJ, Bool.and_eq_true, beq_iff_eq] at hok
    obtain ⟨h1, h2⟩ := hok
    subst h1
    rw [Nat.zero_add]
    exact seq_of st l a w h2 (hS _ _ _ h) (hK a w h)
  | n + 1, rem, l, a, w, hok, h => by
    simp only [okJ, Bool.and_eq_true, bne_iff_ne, List.all_eq_true] at hok
    obtain ⟨h1, h2⟩ := hok
    rw [show n + 1 + st.length = (n + st.length) + 1 by omega]
    refine wpAnyH_all rfl h1 fun j hj => ?_
    obtain ⟨h3, h4⟩ := h2 j hj
    obtain ⟨o, ho, hg, hr⟩ := hs rem j a w (List.contains_iff_mem.1 h3) h
    exact wpOp_upon ho hg hr fun v w' hJ => ⟨hS _ _ _ hJ, jobs_of hS hs hK n _ _ _ _ h4 hJ⟩
/-- Operations that only read, each taken at once. -/
def pureJ (P : Program) (ops : Array Oper) (S : World → Prop) (K : Act → Prop) : List Nat → Act → Prop
  | [], a => K a
  | i :: r, a => ∃ o v, ops[i]? = some o ∧ YieldsIf P ops S o v a ∧ pureJ P ops S K r (a.put o.dst v)
theorem pures_of {js st : List Nat} {I : World → Prop} (hsel : Region.noSelect ops = true) (hQ : ∀ c (d : Option Tmp) v a w, Q (.panic c) (a.put d v) w → Q (.panic c) a w) (hc : ∀ w, I w → S w) {K : Act → Prop}
    (hK : ∀ a w l, K a → I w → okJ md ops st js.length js l = true → wpAnyH P md ops Q S (js.length + st.length) l a w) :
    ∀ (r : List Nat) (l : Array Bool) (a : Act) (w : World), okPJ md ops js st r l = true → I w → pureJ P ops S K r a → wpAnyH P md ops Q S (r.length + (js.length + st.length)) l a w
  | [], l, a, w, hok, hI, h => by
    rw [List.length_nil, Nat.zero_add]
    exact hK a w l h hI hok
  | i :: r, l, a, w, hok, hI, h => by
    simp only [okPJ, Bool.and_eq_true] at hok
    obtain ⟨⟨h1, h2⟩, h7⟩ := hok
    obtain ⟨o, v, ho, hy, hr⟩ := h
    rw [List.length_cons, show r.length + 1 + (js.length + st.length) = (r.length + (js.length + st.length)) + 1 by omega]
    exact wpAnyH_take (v := v) ho hsel h1 h2 (fun c a w => hQ c _ _ a w) hy (hc _ hI) (pures_of hsel hQ hc hK r _ _ w h7 hI hr)
abbrev Mk := Nat → Option (Value × Nat × Nat)
def putM (a : Act) (dst : Nat → Tmp) (M : Mk) : List Nat → Act
  | [] => a
  | j :: r => match M j with
    | some x => (putM a dst M r).put (some (dst j)) x.1
    | none => putM a dst M r
def updM (M : Mk) (j : Nat) (x : Value × Nat × Nat) : Mk := fun k => if k = j then some x else M k
theorem putM_off {a : Act} {dst : Nat → Tmp} {M : Mk} {j : Nat} {x : Value × Nat × Nat} : ∀ {js : List Nat}, j ∉ js → putM a dst (updM M j x) js = putM a dst M js
  | [], _ => rfl
  | k :: r, h => by
    have hk : k ≠ j := fun e => h (by simp [e])
    have ih := putM_off (a := a) (dst := dst) (M := M) (x := x) (js := r) (fun hm => h (List.mem_cons_of_mem _ hm))
    have e : updM M j x k = M k := if_neg hk
    simp only [putM, e, ih]
theorem putM_upd {a : Act} {dst : Nat → Tmp} {M : Mk} {j : Nat} {x : Value × Nat × Nat} : ∀ {js : List Nat}, j ∈ js → js.Nodup → (∀ k ∈ js, k ≠ j → dst k ≠ dst j) → M j = none → (putM a dst M js).put (some (dst j)) x.1 = putM a dst (updM M j x) js
  | [], h, _, _, _ => by simp at h
  | k :: r, h, hn, hd, hM => by
    obtain ⟨hkr, hnr⟩ := List.nodup_cons.1 hn
    by_cases hk : k = j
    · subst hk
      have e : updM M k x k = some x := if_pos rfl
      simp only [putM, e, hM, putM_off hkr]
    · have hj : j ∈ r := by
        rcases List.mem_cons.1 h with e | e
        · exact absurd e.symm hk
        · exact e
      have ih := putM_upd (a := a) (dst := dst) (M := M) (x := x) hj hnr (fun k' hk' => hd k' (by simp [hk'])) hM
      have e : updM M j x k = M k := if_neg hk
      have hne := hd k (by simp) hk
      simp only [putM, e]
      cases hMk : M k with
      | none => exact ih
      | some y =>
        simp only
        rw [← ih]
        exact Act.put_comm _ (x := some (dst k)) (y := some (dst j)) _ _ (fun e he => by cases he; intro h2; injection h2 with h2; exact hne h2.symm)
theorem exec_putM {o : Oper} (hs : ∀ cs b, o.op ≠ .select cs b) {a : Act} {dst : Nat → Tmp} {M : Mk} : ∀ {js : List Nat}, (∀ k ∈ js, dst k ∉ o.looksAt ops) → execOp (putM a dst M js).eval o = execOp a.eval o
  | [], _ => rfl
  | k :: r, h => by
    have ih := exec_putM hs (a := a) (dst := dst) (M := M) (js := r) (fun k' hk' => h k' (by simp [hk']))
    simp only [putM]
    split
    · rw [execOp_put (ops := ops) o hs _ (some (dst k)) _ (fun e he => by cases he; exact h k (by simp)), ih]
    · exact ih
/-- What each of the jobs does, and what is to come behind them all. -/
structure JobsK (P : Program) (ops : Array Oper) (S I : World → Prop) (Q : Exit → Act → World → Prop) (n0 : Nat) (js st : List Nat) (dst : Nat → Tmp) (R : Nat → Value → Nat → Nat → World → Prop) (a0 : Act) : Prop where
  job : ∀ j ∈ js, ∃ o, ops[j]? = some o ∧ o.guard = none ∧ o.dst = some (dst j) ∧ (∀ k ∈ js, dst k ∉ o.looksAt ops) ∧ ∀ w, I w → Upon P (fun v w' => Below w.heap.size w w' ∧ R j v w.heap.size w'.heap.size w') ((execOp a0.eval o).run P w)
  fin : ∀ (w : World) (M : Mk), I w → (∀ j ∈ js, ∃ x, M j = some x ∧ n0 ≤ x.2.1 ∧ x.2.1 ≤ x.2.2 ∧ x.2.2 ≤ w.heap.size ∧ R j x.1 x.2.1 x.2.2 w) → (∀ j ∈ js, ∀ k ∈ js, j ≠ k → ∀ x y, M j = some x → M k = some y → x.2.2 ≤ y.2.1 ∨ y.2.2 ≤ x.2.1) → runsS P ops S (Q .normal) st (putM a0 dst M js) w
theorem jobsK_of {S I : World → Prop} {n0 : Nat} {js st : List Nat} {dst : Nat → Tmp} {R : Nat → Value → Nat → Nat → World → Prop} {a0 : Act} (hsel : Region.noSelect ops = true) (hnd : js.Nodup) (hdst : ∀ j ∈ js, ∀ k ∈ js, j ≠ k → dst j ≠ dst k)
    (hc : ∀ w, I w → S w) (hn0 : ∀ w, I w → n0 ≤ w.heap.size) (hgrow : ∀ w w', I w → Below w.heap.size w w' → I w') (hR : ∀ j v lo hi w w', R j v lo hi w → Below w.heap.size w w' → R j v lo hi w')
    (h : JobsK P ops S I Q n0 js st dst R a0) (l : Array Bool) (w : World) (hI : I w) (hok : okJ md ops st js.length js l = true) : wpAnyH P md ops Q S (js.length + st.length) l a0 w := by
  refine jobs_of (J := fun rem a w => ∃ M : Mk, a = putM a0 dst M js ∧ I w ∧ (∀ k ∈ js, k ∈ rem ↔ M k = none) ∧ (∀ k ∈ js, ∀ x, M k = some x → n0 ≤ x.2.1 ∧ x.2.1 ≤ x.2.2 ∧ x.2.2 ≤ w.heap.size ∧ R k x.1 x.2.1 x.2.2 w) ∧ (∀ j ∈ js, ∀ k ∈ js, j ≠ k → ∀ x y, M j = some x → M k = some y → x.2.2 ≤ y.2.1 ∨ y.2.2 ≤ x.2.1) ∧ rem.Nodup ∧ ∀ k ∈ rem, k ∈ js) ?_ ?_ ?_ js.length js l a0 w hok ?_
  · rintro rem a w ⟨M, _, h2, _⟩
    exact hc _ h2
  · rintro rem j a w hj ⟨M, rfl, h2, h3, h4, h5, h6, h7⟩
    have hjs := h7 j hj
    obtain ⟨o, ho, hg, hd, hl, hu⟩ := h.job j hjs
    refine ⟨o, ho, hg, ?_⟩
    rw [exec_putM (Region.noSelect_spec hsel j o · · ho) hl]
    refine Upon.imp (hu w h2) ?_
    rintro v w' ⟨b, hr⟩
    have hMj : M j = none := (h3 j hjs).1 hj
    refine ⟨updM M j (v, w.heap.size, w'.heap.size), ?_, hgrow _ _ h2 b, ?_, ?_, ?_, h6.erase _, fun k hk => h7 k (List.mem_of_mem_erase hk)⟩
    · rw [hd]
      exact putM_upd (x := (v, w.heap.size, w'.heap.size)) hjs hnd (fun k hk hne => hdst k hk j hjs hne) hMj
    · intro k hk
      unfold updM
      by_cases e : k = j
      · subst e
        rw [if_pos rfl]
        simp [h6.not_mem_erase]
      · rw [if_neg e, List.mem_erase_of_ne e]
        exact h3 k hk
    · intro k hk x hx
      unfold updM at hx
      split at hx
      · rename_i e
        subst e
        injection hx with hx
        subst hx
        exact ⟨hn0 _ h2, b.size, Nat.le_refl _, hr⟩
      · obtain ⟨g1, g2, g3, g4⟩ := h4 k hk x hx
        exact ⟨g1, g2, Nat.le_trans g3 b.size, hR _ _ _ _ _ _ g4 b⟩
    · intro i hi k hk hne x y hx hy
      unfold updM at hx hy
      split at hx
      · rename_i e
        subst e
        rw [if_neg (Ne.symm hne)] at hy
        injection hx with hx
        subst hx
        exact .inr (h4 k hk y hy).2.2.1
      · split at hy
        · rename_i e
          subst e
          injection hy with hy
          subst hy
          exact .inl (h4 i hi x hx).2.2.1
        · exact h5 i hi k hk hne x y hx hy
  · rintro a w ⟨M, rfl, h2, h3, h4, h5, h6, h7⟩
    refine h.fin w M h2 (fun j hj => ?_) h5
    cases hM : M j with
    | none => exact absurd ((h3 j hj).2 hM) (by simp)
    | some x => exact ⟨x, rfl, h4 j hj x hM⟩
  · refine ⟨fun _ => none, ?_, hI, fun k hk => by simp [hk], (fun k hk x hx => by cases hx), (fun i hi k hk hne x y hx => by cases hx), hnd, fun k hk => hk⟩
    have : ∀ js : List Nat, a0 = putM a0 dst (fun _ => none) js := by
      intro js
      induction js with
      | nil => rfl
      | cons j r ih => exact ih
    exact this js
theorem JobsK.noPanic {I : World → Prop} {n0 : Nat} {js st : List Nat} {dst : Nat → Tmp} {R : Nat → Value → Nat → Nat → World → Prop} {a0 : Act} (h : JobsK P ops S I Q n0 js st dst R a0) : JobsK P ops S I (NoPanic Q) n0 js st dst R a0 := by
  refine ⟨h.job, fun w M a1 a2 a3 => ?_⟩
  have mono : ∀ (st : List Nat) (a : Act) (w : World), runsS P ops S (Q .normal) st a w → runsS P ops S (NoPanic Q .normal) st a w := by
    intro st
    induction st with
    | nil => intro a w h; exact NoPanic.normal h
    | cons j st ih => rintro a w ⟨o, w', v, e1, e2, e3, e4, e5⟩; exact ⟨o, w', v, e1, e2, e3, e4, ih _ _ e5⟩
  exact mono _ _ _ (h.fin w M a1 a2 a3)
theorem pureJ_imp {K K2 : Act → Prop} (hK : ∀ a, K a → K2 a) : ∀ (r : List Nat) (a : Act), pureJ P ops S K r a → pureJ P ops S K2 r a
  | [], a, h => hK _ h
  | i :: r, a, ⟨o, v, ho, hy, hr⟩ => ⟨o, v, ho, hy, pureJ_imp hK r _ hr⟩
/-- THE LAW. -/
theorem region_jobs {id : Nat} {a : Act} {w : World} (r js st : List Nat) (dst : Nat → Tmp) (R : Nat → Value → Nat → Nat → World → Prop) (n0 : Nat) (S I : World → Prop) (hm : P.follows .mixedOrders = true)
    (hok : okPJ .any ops js st r (Array.replicate ops.size false) = true) (hlen : ops.size = r.length + (js.length + st.length)) (hsel : Region.noSelect ops = true) (hnd : js.Nodup) (hdst : ∀ j ∈ js, ∀ k ∈ js, j ≠ k → dst j ≠ dst k)
    (hc : ∀ w, I w → S w) (hn0 : ∀ w, I w → n0 ≤ w.heap.size) (hgrow : ∀ w w', I w → Below w.heap.size w w' → I w') (hR : ∀ j v lo hi w w', R j v lo hi w → Below w.heap.size w w' → R j v lo hi w') (hI : I w.drew)
    (h : pureJ P ops S (JobsK P ops S I Q n0 js st dst R) r a) : (Code.region id ops true).wp P Q a w := by
  refine wp_region_noPanic (wp_region_held hm (S := S) ?_)
  have k := pures_of (md := .any) (Q := NoPanic Q) (S := S) (I := I) (js := js) (st := st) hsel (fun _ _ _ _ _ h => h) hc (K := JobsK P ops S I Q n0 js st dst R) (fun a w l hK hI hok => jobsK_of hsel hnd hdst hc hn0 hgrow hR hK.noPanic l w hI hok) r _ a _ hok hI h
  rw [← hlen] at k; exact k
/-- The same where what is known of the world is that nothing has turned but from block w.heap.size on. -/
theorem region_jobsB {id : Nat} {a : Act} {w : World} (r js st : List Nat) (dst : Nat → Tmp) (R : Nat → Value → Nat → Nat → World → Prop) (hm : P.follows .mixedOrders = true)
    (hok : okPJ .any ops js st r (Array.replicate ops.size false) = true) (hlen : ops.size = r.length + (js.length + st.length)) (hsel : Region.noSelect ops = true) (hnd : js.Nodup) (hdst : ∀ j ∈ js, ∀ k ∈ js, j ≠ k → dst j ≠ dst k)
    (hR : ∀ j v lo hi w w', R j v lo hi w → Below w.heap.size w w' → R j v lo hi w') (S : World → Prop) (hc : ∀ w', BI w w' → S w')
    (h : pureJ P ops S (JobsK P ops S (BI w) Q w.heap.size js st dst R) r a) : (Code.region id ops true).wp P Q a w :=
  region_jobs r js st dst R w.heap.size S (BI w) hm hok hlen hsel hnd hdst hc (fun _ h => Below.size h) (fun _ _ h b => BI.next h b) hR (BI.start w) h
end
section
variable {ops : Array Oper} {S : World → Prop} {K : Act → Prop}
theorem j_pure (d : Tmp) {i : Nat} {r : List Nat} {a : Act} {v : Value} {o : Oper} (ho : ops[i]? = some o) (hd : o.dst = some d) (hg : o.guard = none)
    (he : ∀ w, (execOp a.eval o).run Try.prog w = .ok (.value v) w) (hr : pureJ Try.prog ops S K r (a.put (some d) v)) : pureJ Try.prog ops S K (i :: r) a :=
  ⟨o, v, ho, .inl ⟨wanted_of hg, fun w _ => he w⟩, hd ▸ hr⟩
/-- One cell is read. -/
theorem j_cell (d : Tmp) {i : Nat} {r : List Nat} {a : Act} {v : Value} {o : Oper} {T : TypeId} {x : Operand} {p : Addr} (ho : ops[i]? = some o) (hd : o.dst = some d) (hg : o.guard = none) (hop : o.op = .load T x) (hx : a.eval x = .pointer (some p))
    (hc : ∀ w, S w → (loadVar T p).run Try.prog w = .ok v w) (hr : pureJ Try.prog ops S K r (a.put (some d) v)) : pureJ Try.prog ops S K (i :: r) a :=
  ⟨o, v, ho, .inl ⟨wanted_of hg, fun w hw => by
    unfold execOp
    rw [hop]
    simp only [hx]
    have h := hc w hw
    simp [Instr.loadAt, Instr.sureAddr, asAddr, h, Result.andThen]⟩, hd ▸ hr⟩
end
end Go.Proofs.Yteccbcbijfcpmaa.cards

/- New games: the program's and the model's. -/
namespace Go.Proofs.Yteccbcbijfcpmaa.game
open Go.RowKit
open cards deal reg
set_option linter.unusedVariables false

def plI (p : Int) : Bool := decide (1 ≤ p ∧ p ≤ 4)
set_option maxHeartbeats 400000 in
theorem can_play (p : Int) (w : World) :
    Calls Try.prog 56 #[.int .i64 p] w fun e w' => e = .returned (.bool (plI p)) ∧ Below w.heap.size w w' := by
  go_enter Try.func56, Try.ntmps56
  go_wp2
  all_goals go_ret
  all_goals exact ⟨ret_bool (by unfold plI; simp; omega), by repeat (first | with_reducible exact Below.refl _ _ | with_reducible exact HB.out | with_reducible apply Below.drew | with_reducible apply bdN | with_reducible refine Below.alloc ?_ (by first | exact Nat.le_refl _ | with_reducible exact HB.out.size | omega | (simp; done) | (simp; omega) | (have := HB.out.size; simp at *; omega)) _ | with_reducible refine Below.setCell ?_ (by first | exact Nat.le_refl _ | with_reducible exact HB.out.size | omega | (simp; done) | (simp; omega) | (have := HB.out.size; simp at *; omega)) _)⟩
abbrev gm0 : Gm := ⟨0, 0, [], [], []⟩
noncomputable def newG (s : Int) (n : Nat) : Gm := ⟨s, (newD s).nx, (newD s).l, List.replicate n 0, List.replicate n 0⟩
noncomputable def ngR (s p : Int) : Gm × Bool := if isSd s = true ∧ plI p = true then (newG s p.toNat, true) else (gm0, false)
theorem ngR_len (s p : Int) : (ngR s p).1.l.length ≤ 1000 ∧ (ngR s p).1.sc.length ≤ 1000 ∧ (ngR s p).1.wr.length ≤ 1000 := by
  unfold ngR; split
  · rename_i h
    have h2 := h.2
    unfold plI at h2
    have := of_decide_eq_true h2
    have h3 := (new_facts (s := s)).2.1
    refine ⟨?_, ?_, ?_⟩
    · show (newD s).l.length ≤ _; omega
    · show (List.replicate p.toNat (0 : Int)).length ≤ _; rw [List.length_replicate]; omega
    · show (List.replicate p.toNat (0 : Int)).length ≤ _; rw [List.length_replicate]; omega
  · simp

/-- Three slices in a world, whichever was made first. -/
theorem OwnG.three {w : World} {B C : Nat} {vl vs vw : Value} {l : List Cd} {sc wr : List Int} {a1 b1 a2 b2 a3 b3 : Nat} (h1 : Own w a1 vl l) (h2 : OwnI w a2 vs sc) (h3 : OwnI w a3 vw wr) (c1 : ∀ g, vl.ownBlock = some g → g < b1) (c2 : ∀ g, vs.ownBlock = some g → g < b2) (c3 : ∀ g, vw.ownBlock = some g → g < b3)
    (d12 : b1 ≤ a2 ∨ b2 ≤ a1) (d13 : b1 ≤ a3 ∨ b3 ≤ a1) (d23 : b2 ≤ a3 ∨ b3 ≤ a2) (hB : B ≤ a1 ∧ B ≤ a2 ∧ B ≤ a3) (hC : b1 ≤ C ∧ b2 ≤ C ∧ b3 ≤ C) : OwnG w B C vl vs vw l sc wr :=
  ⟨h1.base hB.1, OwnI.base h2 hB.2.1, OwnI.base h3 hB.2.2, fun g e1 e2 => by have := c1 g e1; have := c2 g e2; have := (h1.span g e1).1; have := (h2.span g e2).1; omega, fun g e1 e2 => by have := c1 g e1; have := c3 g e2; have := (h1.span g e1).1; have := (h3.span g e2).1; omega, fun g e1 e2 => by have := c2 g e1; have := c3 g e2; have := (h2.span g e1).1; have := (h3.span g e2).1; omega,
    fun g e => Nat.lt_of_lt_of_le (c1 g e) hC.1, fun g e => Nat.lt_of_lt_of_le (c2 g e) hC.2.1, fun g e => Nat.lt_of_lt_of_le (c3 g e) hC.2.2⟩

theorem exec_makeI {n : Nat} (hn : n ≤ 1000000000) {a : Act} {o : Oper} {p q : Operand} (ho : o.op = .makeSlice 25 p q) (hp : a.eval p = .int .i64 n) (hq : a.eval q = .int .i64 n) (w : World) :
    (execOp a.eval o).run Try.prog w = .ok (.value (.slice (some ⟨w.heap.size, 0, none⟩) n n)) (w.alloc (.cells (madeCells #[Value.int .i64 0] n) 3)) := by
  unfold execOp
  rw [ho]
  simp only [hp, hq]
  simp [madeI n hn w, Result.andThen]
abbrev cvG (s n : Int) (v u q : Value) : Array Value := #[.int .i64 s, .int .i64 n, v, u, q]
/-- A Game is stored into a block. -/
theorem exec_storeG {w : World} {g : Nat} {s0 n0 : Int} {v0 u0 q0 : Value} (h : GBox w g ⟨27, s0, n0, v0, u0, q0⟩) {a : Act} {o : Oper} {p q : Operand} (ho : o.op = .store 27 p q) {s n : Int} {pl ps pw : Option Addr} {nl cl ns cs nw cw : Nat}
    (hp : a.eval p = .pointer (some ⟨g, 0, none⟩)) (hq : a.eval q = gval s n (.slice pl nl cl) (.slice ps ns cs) (.slice pw nw cw)) : (execOp a.eval o).run Try.prog w = .ok .skip (w.setCells g 0 (cvG s n (.slice pl nl cl) (.slice ps ns cs) (.slice pw nw cw)).toList) := by
  have hv : VB w g 27 (cvG s0 n0 v0 u0 q0) := h
  have hr := run_storeAt_mid (P := Try.prog) w g 0 27 (cvG s n (.slice pl nl cl) (.slice ps ns cs) (.slice pw nw cw)) hv.there (by kernel_rfl) (by simp [Value.oneCell'])
  unfold execOp
  rw [ho]
  simp only [hp, hq]
  simp [hr, Result.andThen]
theorem gbox_sets {w : World} {g : Nat} {t : TypeId} {s0 n0 : Int} {v0 u0 q0 : Value} (h : GBox w g ⟨t, s0, n0, v0, u0, q0⟩) (s n : Int) (v u q : Value) : GBox (w.setCells g 0 (cvG s n v u q).toList) g ⟨t, s, n, v, u, q⟩ := VB.stored (T := t) (cs := cvG s0 n0 v0 u0 q0) (cs2 := cvG s n v u q) h rfl
theorem out_sets (w : World) (g : Nat) (vs : List Value) : Out g (g + 1) w (w.setCells g 0 vs) := Out.grown (grown_setsV g vs 0 w) (fun q e => by injection e with e; omega)
theorem OwnI.madeB (w : World) (n : Nat) : ∀ g, (Value.slice (some ⟨w.heap.size, 0, none⟩) n n).ownBlock = some g → g < w.heap.size + 1 := fun g e => by have e2 : some w.heap.size = some g := e; injection e2 with e2; omega

set_option maxRecDepth 100000 in
set_option maxHeartbeats 2000000 in
theorem impl_ng (s p : Int) (w : World) :
    Calls Try.prog 16 #[.int .i64 s, .int .i64 p] w fun e w' => ∃ vl vs vw, e = .returned (.tuple #[gval (ngR s p).1.s (ngR s p).1.nx vl vs vw, .bool (ngR s p).2]) ∧ OwnG w' w.heap.size w'.heap.size vl vs vw (ngR s p).1.l (ngR s p).1.sc (ngR s p).1.wr ∧ Below w.heap.size w w' := by
  cases hs : isSd s
  · have HT := Lib.hid (show ngR s p = (gm0, false) by unfold ngR; rw [if_neg (by simp [hs])])
    have HC := Lib.hid (fun w => is_seed s w)
    rw [hs] at HC
    clear hs
    go_enter Try.func16, Try.ntmps16
    go_wp2_with fail
    refine ((HC.out _)).mono ?_
    rintro e w1 ⟨rfl, b⟩
    have Sw1 := Lib.hid b.size
    have HB := Lib.hid (chain0 (w := w) (by repeat (first | with_reducible exact Below.refl _ _ | with_reducible exact HB.out | with_reducible apply Below.drew | with_reducible apply bdN | with_reducible refine Below.alloc ?_ (by first | exact Nat.le_refl _ | with_reducible exact HB.out.size | omega | (simp; done) | (simp; omega) | (have := HB.out.size; simp at *; omega)) _ | with_reducible refine Below.setCell ?_ (by first | exact Nat.le_refl _ | with_reducible exact HB.out.size | omega | (simp; done) | (simp; omega) | (have := HB.out.size; simp at *; omega)) _)) b)
    have K2 : Hid (GBox _ (w.heap.size) (⟨27, 0, 0, .slice none 0 0, .slice none 0 0, .slice none 0 0⟩)) := Lib.hid (GBox.below (by repeat (first | with_reducible exact K2.out | with_reducible apply GBox.drewN | with_reducible apply GBox.drew | (with_reducible refine GBox.newAt ?_ ?_ <;> first | (simp; done) | rfl) | with_reducible apply GBox.alloc)) b)
    try clear k2a k2b k2c k2d k2e k2z
    have k2z := K2.out.lt
    obtain ⟨k2a, k2b, k2c, k2d, k2e⟩ := K2.out.cell
    try clear k2f
    have k2f := K2.out.frozen
    clear b
    go_wp2_with fail
    try simp only [Exit.inBlock, Exit.then]
    refine bodyPost_ret (res_game2 Try.results16 rfl (K2.out.set_ _ _ _ _ _)) rfl ?_
    exact ⟨.slice none 0 0, .slice none 0 0, .slice none 0 0, by rw [HT.out]; rfl, by rw [HT.out]; exact (OwnG.empty _ _).top (by have := HB.out.size; simpa [World.setCell] using this), by repeat (first | with_reducible exact Below.refl _ _ | with_reducible exact HB.out | with_reducible apply Below.drew | with_reducible apply bdN | with_reducible refine Below.alloc ?_ (by first | exact Nat.le_refl _ | with_reducible exact HB.out.size | omega | (simp; done) | (simp; omega) | (have := HB.out.size; simp at *; omega)) _ | with_reducible refine Below.setCell ?_ (by first | exact Nat.le_refl _ | with_reducible exact HB.out.size | omega | (simp; done) | (simp; omega) | (have := HB.out.size; simp at *; omega)) _)⟩
  · cases hp : plI p
    · have HT := Lib.hid (show ngR s p = (gm0, false) by unfold ngR; rw [if_neg (by simp [hp])])
      have HC := Lib.hid (fun w => is_seed s w)
      rw [hs] at HC
      have HP := Lib.hid (fun w => can_play p w)
      rw [hp] at HP
      clear hs hp
      go_enter Try.func16, Try.ntmps16
      go_wp2_with fail
      refine ((HC.out _)).mono ?_
      rintro e w1 ⟨rfl, b⟩
      have Sw1 := Lib.hid b.size
      have HB := Lib.hid (chain0 (w := w) (by repeat (first | with_reducible exact Below.refl _ _ | with_reducible exact HB.out | with_reducible apply Below.drew | with_reducible apply bdN | with_reducible refine Below.alloc ?_ (by first | exact Nat.le_refl _ | with_reducible exact HB.out.size | omega | (simp; done) | (simp; omega) | (have := HB.out.size; simp at *; omega)) _ | with_reducible refine Below.setCell ?_ (by first | exact Nat.le_refl _ | with_reducible exact HB.out.size | omega | (simp; done) | (simp; omega) | (have := HB.out.size; simp at *; omega)) _)) b)
      have K2 : Hid (GBox _ (w.heap.size) (⟨27, 0, 0, .slice none 0 0, .slice none 0 0, .slice none 0 0⟩)) := Lib.hid (GBox.below (by repeat (first | with_reducible exact K2.out | with_reducible apply GBox.drewN | with_reducible apply GBox.drew | (with_reducible refine GBox.newAt ?_ ?_ <;> first | (simp; done) | rfl) | with_reducible apply GBox.alloc)) b)
      try clear k2a k2b k2c k2d k2e k2z
      have k2z := K2.out.lt
      obtain ⟨k2a, k2b, k2c, k2d, k2e⟩ := K2.out.cell
      try clear k2f
      have k2f := K2.out.frozen
      clear b
      go_wp2_with fail
      refine ((HP.out _)).mono ?_
      rintro e w2 ⟨rfl, b⟩
      have Sw2 := Lib.hid b.size
      have HB := Lib.hid (chain0 (w := w) (by repeat (first | with_reducible exact Below.refl _ _ | with_reducible exact HB.out | with_reducible apply Below.drew | with_reducible apply bdN | with_reducible refine Below.alloc ?_ (by first | exact Nat.le_refl _ | with_reducible exact HB.out.size | omega | (simp; done) | (simp; omega) | (have := HB.out.size; simp at *; omega)) _ | with_reducible refine Below.setCell ?_ (by first | exact Nat.le_refl _ | with_reducible exact HB.out.size | omega | (simp; done) | (simp; omega) | (have := HB.out.size; simp at *; omega)) _)) b)
      have K2 : Hid (GBox _ (w.heap.size) (⟨27, 0, 0, .slice none 0 0, .slice none 0 0, .slice none 0 0⟩)) := Lib.hid (GBox.below (by repeat (first | with_reducible exact K2.out | with_reducible apply GBox.drewN | with_reducible apply GBox.drew | (with_reducible refine GBox.newAt ?_ ?_ <;> first | (simp; done) | rfl) | with_reducible apply GBox.alloc)) b)
      try clear k2a k2b k2c k2d k2e k2z
      have k2z := K2.out.lt
      obtain ⟨k2a, k2b, k2c, k2d, k2e⟩ := K2.out.cell
      try clear k2f
      have k2f := K2.out.frozen
      clear b
      go_wp2_with fail
      try simp only [Exit.inBlock, Exit.then]
      refine bodyPost_ret (res_game2 Try.results16 rfl (K2.out.set_ _ _ _ _ _)) rfl ?_
      exact ⟨.slice none 0 0, .slice none 0 0, .slice none 0 0, by rw [HT.out]; rfl, by rw [HT.out]; exact (OwnG.empty _ _).top (by have := HB.out.size; simpa [World.setCell] using this), by repeat (first | with_reducible exact Below.refl _ _ | with_reducible exact HB.out | with_reducible apply Below.drew | with_reducible apply bdN | with_reducible refine Below.alloc ?_ (by first | exact Nat.le_refl _ | with_reducible exact HB.out.size | omega | (simp; done) | (simp; omega) | (have := HB.out.size; simp at *; omega)) _ | with_reducible refine Below.setCell ?_ (by first | exact Nat.le_refl _ | with_reducible exact HB.out.size | omega | (simp; done) | (simp; omega) | (have := HB.out.size; simp at *; omega)) _)⟩
    · have hp2 := hp
      unfold plI at hp2
      have hp3 := of_decide_eq_true hp2
      obtain ⟨n, rfl⟩ : ∃ n : Nat, p = (n : Int) := ⟨p.toNat, by omega⟩
      have HT := Lib.hid (show ngR s n = (newG s n, true) by unfold ngR; rw [if_pos ⟨hs, hp⟩]; simp)
      have HC := Lib.hid (fun w => is_seed s w)
      rw [hs] at HC
      have HP := Lib.hid (fun w => can_play n w)
      rw [hp] at HP
      have HNd := Lib.hid (fun w => new_deal s w (isSd_iff.1 hs))
      have hn4 : n ≤ 4 := by omega
      have hmk := madeI n (by omega)
      have HMo := Lib.hid (fun w => own_madeI w n (by omega))
      have HT1 : Hid ((ngR s n).1 = newG s n) := Lib.hid (by rw [HT.out])
      have HT2 : Hid ((ngR s n).2 = true) := Lib.hid (by rw [HT.out])
      obtain ⟨L, hL⟩ : ∃ L, (newD s).l = L := ⟨_, rfl⟩
      obtain ⟨z, hz⟩ : ∃ z, (newD s).nx = z := ⟨_, rfl⟩
      obtain ⟨m, hm⟩ : ∃ m, L.length = m := ⟨_, rfl⟩
      have HTg : Hid ((ngR s n).1 = ⟨s, z, L, List.replicate n 0, List.replicate n 0⟩) := Lib.hid (by rw [HT1.out]; unfold newG; rw [hL, hz])
      rw [HTg.out, HT2.out]
      rw [hL, hz] at HNd
      have HMm := Lib.hid hm
      clear hs hp hp2 hp3 HT HT1 HT2 HTg hL hz hm
      go_enter Try.func16, Try.ntmps16
      go_wp2_with fail
      refine ((HC.out _)).mono ?_
      rintro e w1 ⟨rfl, b⟩
      have Sw1 := Lib.hid b.size
      have HB := Lib.hid (chain0 (w := w) (by repeat (first | with_reducible exact Below.refl _ _ | with_reducible exact HB.out | with_reducible apply Below.drew | with_reducible apply bdN | with_reducible refine Below.alloc ?_ (by first | exact Nat.le_refl _ | with_reducible exact HB.out.size | omega | (simp; done) | (simp; omega) | (have := HB.out.size; simp at *; omega)) _ | with_reducible refine Below.setCell ?_ (by first | exact Nat.le_refl _ | with_reducible exact HB.out.size | omega | (simp; done) | (simp; omega) | (have := HB.out.size; simp at *; omega)) _)) b)
      have K2 : Hid (GBox _ (w.heap.size) (⟨27, 0, 0, .slice none 0 0, .slice none 0 0, .slice none 0 0⟩)) := Lib.hid (GBox.below (by repeat (first | with_reducible exact K2.out | with_reducible apply GBox.drewN | with_reducible apply GBox.drew | (with_reducible refine GBox.newAt ?_ ?_ <;> first | (simp; done) | rfl) | with_reducible apply GBox.alloc)) b)
      try clear k2a k2b k2c k2d k2e k2z
      have k2z := K2.out.lt
      obtain ⟨k2a, k2b, k2c, k2d, k2e⟩ := K2.out.cell
      try clear k2f
      have k2f := K2.out.frozen
      clear b
      go_wp2_with fail
      refine ((HP.out _)).mono ?_
      rintro e w2 ⟨rfl, b⟩
      have Sw2 := Lib.hid b.size
      have HB := Lib.hid (chain0 (w := w) (by repeat (first | with_reducible exact Below.refl _ _ | with_reducible exact HB.out | with_reducible apply Below.drew | with_reducible apply bdN | with_reducible refine Below.alloc ?_ (by first | exact Nat.le_refl _ | with_reducible exact HB.out.size | omega | (simp; done) | (simp; omega) | (have := HB.out.size; simp at *; omega)) _ | with_reducible refine Below.setCell ?_ (by first | exact Nat.le_refl _ | with_reducible exact HB.out.size | omega | (simp; done) | (simp; omega) | (have := HB.out.size; simp at *; omega)) _)) b)
      have K2 : Hid (GBox _ (w.heap.size) (⟨27, 0, 0, .slice none 0 0, .slice none 0 0, .slice none 0 0⟩)) := Lib.hid (GBox.below (by repeat (first | with_reducible exact K2.out | with_reducible apply GBox.drewN | with_reducible apply GBox.drew | (with_reducible refine GBox.newAt ?_ ?_ <;> first | (simp; done) | rfl) | with_reducible apply GBox.alloc)) b)
      try clear k2a k2b k2c k2d k2e k2z
      have k2z := K2.out.lt
      obtain ⟨k2a, k2b, k2c, k2d, k2e⟩ := K2.out.cell
      try clear k2f
      have k2f := K2.out.frozen
      clear b
      go_upto_region 3 with fail
      refine region_jobsB [0, 2, 4] [1, 3, 5] [6, 7, 8] (fun j => if j = 1 then 16 else if j = 3 then 18 else 20) (fun j v lo hi w' => (∀ g, v.ownBlock = some g → g < hi) ∧ if j = 1 then ∃ u, v = dval s z u ∧ Own w' lo u L ∧ (∀ g, u.ownBlock = some g → g < hi) else OwnI w' lo v (List.replicate n 0)) (by kernel_rfl) (by kernel_rfl) rfl (by kernel_rfl) (by decide) (by decide) ?_ (fun _ => True) (fun _ _ => trivial) ?_
      · rintro j v lo hi wa wb ⟨h0, h1⟩ hb
        refine ⟨h0, ?_⟩
        split at h1
        · rename_i e
          rw [if_pos e]
          obtain ⟨u, e1, e2, e3⟩ := h1
          exact ⟨u, e1, e2.below hb, e3⟩
        · rename_i e
          rw [if_neg e]
          exact h1.below hb
      refine j_pure 15 (v := .int .i64 s) rfl rfl rfl (fun w => by kernel_rfl) ?_
      refine j_pure 17 (v := .int .i64 n) rfl rfl rfl (fun w => by kernel_rfl) ?_
      refine j_pure 19 (v := .int .i64 n) rfl rfl rfl (fun w => by kernel_rfl) ?_
      refine ⟨fun j hj => ?_, fun w' M hI hM hd => ?_⟩
      · simp only [List.mem_cons, List.not_mem_nil, or_false] at hj
        rcases hj with rfl | rfl | rfl
        · refine ⟨_, rfl, rfl, rfl, of_decide_eq_true (by kernel_rfl), fun w' hI => ?_⟩
          refine Upon.enter (f := 57) (args := #[.int .i64 s]) (by kernel_rfl) ((HNd.out w').mono ?_)
          rintro e w4 ⟨u, rfl, hu, b⟩
          exact ⟨_, rfl, b, (fun g e => by cases e), ⟨u, rfl, hu, fun g e => (hu.span g e).2⟩⟩
        · refine ⟨_, rfl, rfl, rfl, of_decide_eq_true (by kernel_rfl), fun w' hI => ?_⟩
          rw [exec_makeI (n := n) (by omega) rfl (by kernel_rfl) (by kernel_rfl)]
          exact ⟨(Below.refl _ _).alloc (Nat.le_refl _) _, (fun g e => by have := OwnI.madeB w' n g e; simpa using this), own_madeI w' n (by omega)⟩
        · refine ⟨_, rfl, rfl, rfl, of_decide_eq_true (by kernel_rfl), fun w' hI => ?_⟩
          rw [exec_makeI (n := n) (by omega) rfl (by kernel_rfl) (by kernel_rfl)]
          exact ⟨(Below.refl _ _).alloc (Nat.le_refl _) _, (fun g e => by have := OwnI.madeB w' n g e; simpa using this), own_madeI w' n (by omega)⟩
      · obtain ⟨⟨v1, a1, b1⟩, e1, l1, m1, r1, _, h1⟩ := hM 1 (by simp)
        obtain ⟨⟨v3, a3, b3⟩, e3, l3, m3, r3, c3, h3⟩ := hM 3 (by simp)
        obtain ⟨⟨v5, a5, b5⟩, e5, l5, m5, r5, c5, h5⟩ := hM 5 (by simp)
        have d13 := hd 1 (by simp) 3 (by simp) (by decide) _ _ e1 e3
        have d15 := hd 1 (by simp) 5 (by simp) (by decide) _ _ e1 e5
        have d35 := hd 3 (by simp) 5 (by simp) (by decide) _ _ e3 e5
        simp only [if_true, if_false, Nat.reduceEqDiff] at h1 h3 h5 c3 c5 l1 m1 r1 l3 m3 r3 l5 m5 r5 d13 d15 d35
        obtain ⟨u, rfl, hu, cu⟩ := h1
        have HG : OwnG w' w2.heap.size w'.heap.size u v3 v5 L (List.replicate n 0) (List.replicate n 0) := OwnG.three hu h3 h5 cu c3 c5 d13 d15 d35 ⟨l1, l3, l5⟩ ⟨r1, r3, r5⟩
        obtain ⟨pl, cl, ps, cs, pw, cw, rfl, rfl, rfl, _⟩ := HG.form
        simp only [putM, e1, e3, e5]
        have K2' : Hid (GBox w' w.heap.size ⟨27, 0, 0, .slice none 0 0, .slice none 0 0, .slice none 0 0⟩) := Lib.hid (K2.out.below hI)
        have HB' := Lib.hid (HB.out.trans (Below.mono hI HB.out.size))
        have k2lt := K2.out.lt
        have HGs := Lib.hid (HG.out (out_sets w' w.heap.size (cvG s z (.slice pl L.length cl) (.slice ps (List.replicate n (0 : Int)).length cs) (.slice pw (List.replicate n (0 : Int)).length cw)).toList) (.inr k2lt))
        have HK := Lib.hid (gbox_sets K2'.out s z (.slice pl L.length cl) (.slice ps (List.replicate n (0 : Int)).length cs) (.slice pw (List.replicate n (0 : Int)).length cw))
        have HBs := Lib.hid (Below.out HB'.out (out_sets w' w.heap.size (cvG s z (.slice pl L.length cl) (.slice ps (List.replicate n (0 : Int)).length cs) (.slice pw (List.replicate n (0 : Int)).length cw)).toList) HB'.out.size (Nat.le_refl _))
        have HSz := Lib.hid (out_sets w' w.heap.size (cvG s z (.slice pl L.length cl) (.slice ps (List.replicate n (0 : Int)).length cs) (.slice pw (List.replicate n (0 : Int)).length cw)).toList).size
        refine ⟨_, w', gval s z (.slice pl L.length cl) (.slice ps (List.replicate n (0 : Int)).length cs) (.slice pw (List.replicate n (0 : Int)).length cw), rfl, rfl, .inl (by kernel_rfl), trivial, ?_⟩
        refine ⟨_, w'.setCells w.heap.size 0 (cvG s z (.slice pl L.length cl) (.slice ps (List.replicate n (0 : Int)).length cs) (.slice pw (List.replicate n (0 : Int)).length cw)).toList, undef, rfl, rfl, .inr ⟨exec_storeG K2'.out (p := .tmp 4) (q := .tmp 21) (s := s) (n := z) (pl := pl) (ps := ps) (pw := pw) (nl := L.length) (cl := cl) (ns := (List.replicate n (0 : Int)).length) (cs := cs) (nw := (List.replicate n (0 : Int)).length) (cw := cw) rfl (by kernel_rfl) (by kernel_rfl), rfl⟩, trivial, ?_⟩
        refine ⟨_, w'.setCells w.heap.size 0 (cvG s z (.slice pl L.length cl) (.slice ps (List.replicate n (0 : Int)).length cs) (.slice pw (List.replicate n (0 : Int)).length cw)).toList, .bool true, rfl, rfl, .inl (by kernel_rfl), trivial, ?_⟩
        clear hM hd hI e1 e3 e5 c3 c5 h3 h5 hu cu HG
        simp only [runsS, Act.put, List.setIfInBounds_toArray, List.set_cons_zero, List.set_cons_succ, if_true, if_false, Nat.reduceEqDiff]
        generalize w'.setCells w.heap.size 0 (cvG s z (.slice pl L.length cl) (.slice ps (List.replicate n (0 : Int)).length cs) (.slice pw (List.replicate n (0 : Int)).length cw)).toList = W at HGs HK HBs HSz ⊢
        go_wp2_with fail
        try simp only [Exit.inBlock, Exit.then]
        refine bodyPost_ret (res_game2 Try.results16 rfl HK.out) rfl ?_
        exact ⟨_, _, _, rfl, (HGs.out.base HB.out.size).top HSz.out, HBs.out⟩

set_option maxRecDepth 100000 in
set_option maxHeartbeats 2000000 in
theorem spec_ng (s p : Int) (w : World) :
    Calls Try.prog 15 #[.int .i64 s, .int .i64 p] w fun e w' => ∃ vl vs vw, e = .returned (.tuple #[gval (ngR s p).1.s (ngR s p).1.nx vl vs vw, .bool (ngR s p).2]) ∧ OwnG w' w.heap.size w'.heap.size vl vs vw (ngR s p).1.l (ngR s p).1.sc (ngR s p).1.wr ∧ Below w.heap.size w w' := by
  cases hs : isSd s
  · have HT := Lib.hid (show ngR s p = (gm0, false) by unfold ngR; rw [if_neg (by simp [hs])])
    have HN0 : Hid (ndR s = (⟨0, 0, []⟩, false)) := Lib.hid (by unfold ndR; rw [if_neg (by simp [hs])])
    have HC : Hid (∀ w, Calls Try.prog 53 #[.int .i64 s] w fun e w' => ∃ u, e = .returned (.tuple #[dval 0 0 u, .bool false]) ∧ Own w' w.heap.size u [] ∧ Below w.heap.size w w') := Lib.hid (fun w => by have h := spec_nd s w; rw [HN0.out] at h; exact h)
    clear hs
    go_enter Try.func15, Try.ntmps15
    go_wp2_with fail
    refine (HC.out _).mono ?_
    rintro e wa ⟨u, rfl, hu, b⟩
    obtain ⟨pu, cu, rfl, _⟩ := hu.form
    clear hu
    have Swa := Lib.hid b.size
    have HB := Lib.hid (chain0 (w := w) (by repeat (first | with_reducible exact Below.refl _ _ | with_reducible exact HB.out | with_reducible apply Below.drew | with_reducible apply bdN | with_reducible refine Below.alloc ?_ (by first | exact Nat.le_refl _ | with_reducible exact HB.out.size | omega | (simp; done) | (simp; omega) | (have := HB.out.size; simp at *; omega)) _ | with_reducible refine Below.setCell ?_ (by first | exact Nat.le_refl _ | with_reducible exact HB.out.size | omega | (simp; done) | (simp; omega) | (have := HB.out.size; simp at *; omega)) _)) b)
    have K2 : Hid (GBox _ (w.heap.size) (⟨27, 0, 0, .slice none 0 0, .slice none 0 0, .slice none 0 0⟩)) := Lib.hid (GBox.below (by repeat (first | with_reducible exact K2.out | with_reducible apply GBox.drewN | with_reducible apply GBox.drew | (with_reducible refine GBox.newAt ?_ ?_ <;> first | (simp; done) | rfl) | with_reducible apply GBox.alloc)) b)
    try clear k2a k2b k2c k2d k2e k2z
    have k2z := K2.out.lt
    obtain ⟨k2a, k2b, k2c, k2d, k2e⟩ := K2.out.cell
    try clear k2f
    have k2f := K2.out.frozen
    clear b
    go_upto_region 2 with fail
    obtain ⟨w1b, ew, b⟩ : ∃ w1 : World, w1 = (wa.alloc (Dv.obj ⟨24, 0, 0, .slice pu 0 cu⟩)) ∧ Below ((wa.alloc (Dv.obj ⟨24, 0, 0, .slice pu 0 cu⟩))).heap.size ((wa.alloc (Dv.obj ⟨24, 0, 0, .slice pu 0 cu⟩))) w1 := ⟨_, rfl, Below.refl _ _⟩
    rw [← ew]
    clear ew
    have Sw1b := Lib.hid b.size
    have HB := Lib.hid (chain0 (w := w) (by repeat (first | with_reducible exact Below.refl _ _ | with_reducible exact HB.out | with_reducible apply Below.drew | with_reducible apply bdN | with_reducible refine Below.alloc ?_ (by first | exact Nat.le_refl _ | with_reducible exact HB.out.size | omega | (simp; done) | (simp; omega) | (have := HB.out.size; simp at *; omega)) _ | with_reducible refine Below.setCell ?_ (by first | exact Nat.le_refl _ | with_reducible exact HB.out.size | omega | (simp; done) | (simp; omega) | (have := HB.out.size; simp at *; omega)) _)) b)
    have K2 : Hid (GBox _ (w.heap.size) (⟨27, 0, 0, .slice none 0 0, .slice none 0 0, .slice none 0 0⟩)) := Lib.hid (GBox.below (by repeat (first | with_reducible exact K2.out | with_reducible apply GBox.drewN | with_reducible apply GBox.drew | (with_reducible refine GBox.newAt ?_ ?_ <;> first | (simp; done) | rfl) | with_reducible apply GBox.alloc)) b)
    try clear k2a k2b k2c k2d k2e k2z
    have k2z := K2.out.lt
    obtain ⟨k2a, k2b, k2c, k2d, k2e⟩ := K2.out.cell
    try clear k2f
    have k2f := K2.out.frozen
    clear b
    go_wp2_with fail
    try simp only [Exit.inBlock, Exit.then]
    refine bodyPost_ret (res_game2 Try.results15 rfl (K2.out.set_ _ _ _ _ _)) rfl ?_
    exact ⟨.slice none 0 0, .slice none 0 0, .slice none 0 0, by rw [HT.out]; rfl, by rw [HT.out]; exact (OwnG.empty _ _).top (by have := HB.out.size; simpa [World.setCell] using this), by repeat (first | with_reducible exact Below.refl _ _ | with_reducible exact HB.out | with_reducible apply Below.drew | with_reducible apply bdN | with_reducible refine Below.alloc ?_ (by first | exact Nat.le_refl _ | with_reducible exact HB.out.size | omega | (simp; done) | (simp; omega) | (have := HB.out.size; simp at *; omega)) _ | with_reducible refine Below.setCell ?_ (by first | exact Nat.le_refl _ | with_reducible exact HB.out.size | omega | (simp; done) | (simp; omega) | (have := HB.out.size; simp at *; omega)) _)⟩
  · have HNd := Lib.hid (fun w => spec_nd s w)
    have HN1 : Hid ((ndR s).1 = newD s) := Lib.hid (by unfold ndR; rw [if_pos hs])
    have HN2 : Hid ((ndR s).2 = true) := Lib.hid (by unfold ndR; rw [if_pos hs])
    have HN3 := Lib.hid (new_is s)
    rw [HN1.out, HN2.out, HN3.out.2.2] at HNd
    cases hp : plI p
    · have HT := Lib.hid (show ngR s p = (gm0, false) by unfold ngR; rw [if_neg (by simp [hp])])
      have HP := Lib.hid (fun w => l1_in p 1 4 w)
      have hp2 : decide (1 ≤ p ∧ p ≤ 4) = false := hp
      rw [hp2] at HP
      obtain ⟨L, hL⟩ : ∃ L, (newD s).l = L := ⟨_, rfl⟩
      obtain ⟨z, hz⟩ : ∃ z, (newD s).nx = z := ⟨_, rfl⟩
      obtain ⟨m, hm⟩ : ∃ m, L.length = m := ⟨_, rfl⟩
      rw [hL, hz] at HNd
      have HMm := Lib.hid hm
      clear hs hp hp2 HN1 HN2 HN3 hL hz hm
      go_enter Try.func15, Try.ntmps15
      go_wp2_with fail
      refine (HNd.out _).mono ?_
      rintro e wa ⟨u, rfl, hu, b⟩
      obtain ⟨pu, cu, rfl, _⟩ := hu.form
      rw [HMm.out]
      clear hu
      have Swa := Lib.hid b.size
      have HB := Lib.hid (chain0 (w := w) (by repeat (first | with_reducible exact Below.refl _ _ | with_reducible exact HB.out | with_reducible apply Below.drew | with_reducible apply bdN | with_reducible refine Below.alloc ?_ (by first | exact Nat.le_refl _ | with_reducible exact HB.out.size | omega | (simp; done) | (simp; omega) | (have := HB.out.size; simp at *; omega)) _ | with_reducible refine Below.setCell ?_ (by first | exact Nat.le_refl _ | with_reducible exact HB.out.size | omega | (simp; done) | (simp; omega) | (have := HB.out.size; simp at *; omega)) _)) b)
      have K2 : Hid (GBox _ (w.heap.size) (⟨27, 0, 0, .slice none 0 0, .slice none 0 0, .slice none 0 0⟩)) := Lib.hid (GBox.below (by repeat (first | with_reducible exact K2.out | with_reducible apply GBox.drewN | with_reducible apply GBox.drew | (with_reducible refine GBox.newAt ?_ ?_ <;> first | (simp; done) | rfl) | with_reducible apply GBox.alloc)) b)
      try clear k2a k2b k2c k2d k2e k2z
      have k2z := K2.out.lt
      obtain ⟨k2a, k2b, k2c, k2d, k2e⟩ := K2.out.cell
      try clear k2f
      have k2f := K2.out.frozen
      clear b
      go_upto_region 2 with fail
      obtain ⟨w1b, ew, b⟩ : ∃ w1 : World, w1 = (wa.alloc (Dv.obj ⟨24, s, z, .slice pu m cu⟩)) ∧ Below ((wa.alloc (Dv.obj ⟨24, s, z, .slice pu m cu⟩))).heap.size ((wa.alloc (Dv.obj ⟨24, s, z, .slice pu m cu⟩))) w1 := ⟨_, rfl, Below.refl _ _⟩
      rw [← ew]
      clear ew
      have Sw1b := Lib.hid b.size
      have HB := Lib.hid (chain0 (w := w) (by repeat (first | with_reducible exact Below.refl _ _ | with_reducible exact HB.out | with_reducible apply Below.drew | with_reducible apply bdN | with_reducible refine Below.alloc ?_ (by first | exact Nat.le_refl _ | with_reducible exact HB.out.size | omega | (simp; done) | (simp; omega) | (have := HB.out.size; simp at *; omega)) _ | with_reducible refine Below.setCell ?_ (by first | exact Nat.le_refl _ | with_reducible exact HB.out.size | omega | (simp; done) | (simp; omega) | (have := HB.out.size; simp at *; omega)) _)) b)
      have K2 : Hid (GBox _ (w.heap.size) (⟨27, 0, 0, .slice none 0 0, .slice none 0 0, .slice none 0 0⟩)) := Lib.hid (GBox.below (by repeat (first | with_reducible exact K2.out | with_reducible apply GBox.drewN | with_reducible apply GBox.drew | (with_reducible refine GBox.newAt ?_ ?_ <;> first | (simp; done) | rfl) | with_reducible apply GBox.alloc)) b)
      try clear k2a k2b k2c k2d k2e k2z
      have k2z := K2.out.lt
      obtain ⟨k2a, k2b, k2c, k2d, k2e⟩ := K2.out.cell
      try clear k2f
      have k2f := K2.out.frozen
      clear b
      go_wp2_with fail
      refine (HP.out _).mono ?_
      rintro e w2 ⟨rfl, b⟩
      have Sw2 := Lib.hid b.size
      have HB := Lib.hid (chain0 (w := w) (by repeat (first | with_reducible exact Below.refl _ _ | with_reducible exact HB.out | with_reducible apply Below.drew | with_reducible apply bdN | with_reducible refine Below.alloc ?_ (by first | exact Nat.le_refl _ | with_reducible exact HB.out.size | omega | (simp; done) | (simp; omega) | (have := HB.out.size; simp at *; omega)) _ | with_reducible refine Below.setCell ?_ (by first | exact Nat.le_refl _ | with_reducible exact HB.out.size | omega | (simp; done) | (simp; omega) | (have := HB.out.size; simp at *; omega)) _)) b)
      have K2 : Hid (GBox _ (w.heap.size) (⟨27, 0, 0, .slice none 0 0, .slice none 0 0, .slice none 0 0⟩)) := Lib.hid (GBox.below (by repeat (first | with_reducible exact K2.out | with_reducible apply GBox.drewN | with_reducible apply GBox.drew | (with_reducible refine GBox.newAt ?_ ?_ <;> first | (simp; done) | rfl) | with_reducible apply GBox.alloc)) b)
      try clear k2a k2b k2c k2d k2e k2z
      have k2z := K2.out.lt
      obtain ⟨k2a, k2b, k2c, k2d, k2e⟩ := K2.out.cell
      try clear k2f
      have k2f := K2.out.frozen
      clear b
      go_wp2_with fail
      try simp only [Exit.inBlock, Exit.then]
      refine bodyPost_ret (res_game2 Try.results15 rfl (K2.out.set_ _ _ _ _ _)) rfl ?_
      exact ⟨.slice none 0 0, .slice none 0 0, .slice none 0 0, by rw [HT.out]; rfl, by rw [HT.out]; exact (OwnG.empty _ _).top (by have := HB.out.size; simpa [World.setCell] using this), by repeat (first | with_reducible exact Below.refl _ _ | with_reducible exact HB.out | with_reducible apply Below.drew | with_reducible apply bdN | with_reducible refine Below.alloc ?_ (by first | exact Nat.le_refl _ | with_reducible exact HB.out.size | omega | (simp; done) | (simp; omega) | (have := HB.out.size; simp at *; omega)) _ | with_reducible refine Below.setCell ?_ (by first | exact Nat.le_refl _ | with_reducible exact HB.out.size | omega | (simp; done) | (simp; omega) | (have := HB.out.size; simp at *; omega)) _)⟩
    · have hp2 := hp
      unfold plI at hp2
      have hp3 := of_decide_eq_true hp2
      obtain ⟨n, rfl⟩ : ∃ n : Nat, p = (n : Int) := ⟨p.toNat, by omega⟩
      have HT := Lib.hid (show ngR s n = (newG s n, true) by unfold ngR; rw [if_pos ⟨hs, hp⟩]; simp)
      have HP := Lib.hid (fun w => l1_in n 1 4 w)
      rw [hp2] at HP
      have hn4 : n ≤ 4 := by omega
      have HT1 : Hid ((ngR s n).1 = newG s n) := Lib.hid (by rw [HT.out])
      have HT2 : Hid ((ngR s n).2 = true) := Lib.hid (by rw [HT.out])
      obtain ⟨L, hL⟩ : ∃ L, (newD s).l = L := ⟨_, rfl⟩
      obtain ⟨z, hz⟩ : ∃ z, (newD s).nx = z := ⟨_, rfl⟩
      obtain ⟨m, hm⟩ : ∃ m, L.length = m := ⟨_, rfl⟩
      have HTg : Hid ((ngR s n).1 = ⟨s, z, L, List.replicate n 0, List.replicate n 0⟩) := Lib.hid (by rw [HT1.out]; unfold newG; rw [hL, hz])
      rw [HTg.out, HT2.out]
      rw [hL, hz] at HNd
      have HMm := Lib.hid hm
      clear hs hp hp2 hp3 HT HT1 HT2 HTg HN1 HN2 HN3 hL hz hm
      go_enter Try.func15, Try.ntmps15
      go_wp2_with fail
      refine (HNd.out _).mono ?_
      rintro e wa ⟨u, rfl, hu, b⟩
      obtain ⟨pu, cu, rfl, _⟩ := hu.form
      rw [HMm.out] at hu ⊢
      have Swa := Lib.hid b.size
      have HB := Lib.hid (chain0 (w := w) (by repeat (first | with_reducible exact Below.refl _ _ | with_reducible exact HB.out | with_reducible apply Below.drew | with_reducible apply bdN | with_reducible refine Below.alloc ?_ (by first | exact Nat.le_refl _ | with_reducible exact HB.out.size | omega | (simp; done) | (simp; omega) | (have := HB.out.size; simp at *; omega)) _ | with_reducible refine Below.setCell ?_ (by first | exact Nat.le_refl _ | with_reducible exact HB.out.size | omega | (simp; done) | (simp; omega) | (have := HB.out.size; simp at *; omega)) _)) b)
      have K2 : Hid (GBox _ (w.heap.size) (⟨27, 0, 0, .slice none 0 0, .slice none 0 0, .slice none 0 0⟩)) := Lib.hid (GBox.below (by repeat (first | with_reducible exact K2.out | with_reducible apply GBox.drewN | with_reducible apply GBox.drew | (with_reducible refine GBox.newAt ?_ ?_ <;> first | (simp; done) | rfl) | with_reducible apply GBox.alloc)) b)
      try clear k2a k2b k2c k2d k2e k2z
      have k2z := K2.out.lt
      obtain ⟨k2a, k2b, k2c, k2d, k2e⟩ := K2.out.cell
      try clear k2f
      have k2f := K2.out.frozen
      clear b
      have HU := Lib.hid (hu.alloc (Dv.obj ⟨24, s, z, .slice pu m cu⟩))
      have HUl := Lib.hid (fun g e => (hu.span g e).2)
      have HUs := Lib.hid (show w.heap.size + 1 ≤ wa.heap.size from K2.out.lt)
      clear hu
      go_upto_region 2 with fail
      have K6 : Hid (DBox (wa.alloc (Dv.obj ⟨24, s, z, .slice pu m cu⟩)) wa.heap.size ⟨24, s, z, .slice pu m cu⟩) := Lib.hid (DBox.newAt rfl rfl)
      obtain ⟨g6, hg6⟩ : ∃ g6, wa.heap.size = g6 := ⟨_, rfl⟩
      rw [hg6] at K6 HUl HUs
      try rw [hg6]
      clear hg6
      obtain ⟨w1b, ew, b⟩ : ∃ w1 : World, w1 = (wa.alloc (Dv.obj ⟨24, s, z, .slice pu m cu⟩)) ∧ Below ((wa.alloc (Dv.obj ⟨24, s, z, .slice pu m cu⟩))).heap.size ((wa.alloc (Dv.obj ⟨24, s, z, .slice pu m cu⟩))) w1 := ⟨_, rfl, Below.refl _ _⟩
      rw [← ew]
      clear ew
      have Sw1b := Lib.hid b.size
      have HB := Lib.hid (chain0 (w := w) (by repeat (first | with_reducible exact Below.refl _ _ | with_reducible exact HB.out | with_reducible apply Below.drew | with_reducible apply bdN | with_reducible refine Below.alloc ?_ (by first | exact Nat.le_refl _ | with_reducible exact HB.out.size | omega | (simp; done) | (simp; omega) | (have := HB.out.size; simp at *; omega)) _ | with_reducible refine Below.setCell ?_ (by first | exact Nat.le_refl _ | with_reducible exact HB.out.size | omega | (simp; done) | (simp; omega) | (have := HB.out.size; simp at *; omega)) _)) b)
      have HU := Lib.hid (Own.below (by repeat (first | with_reducible exact HU.out | with_reducible apply Own.drewN | with_reducible apply Own.drew | with_reducible apply Own.alloc)) b)
      have K2 : Hid (GBox _ (w.heap.size) (⟨27, 0, 0, .slice none 0 0, .slice none 0 0, .slice none 0 0⟩)) := Lib.hid (GBox.below (by repeat (first | with_reducible exact K2.out | with_reducible apply GBox.drewN | with_reducible apply GBox.drew | (with_reducible refine GBox.newAt ?_ ?_ <;> first | (simp; done) | rfl) | with_reducible apply GBox.alloc)) b)
      have K6 : Hid (DBox _ (g6) (⟨24, s, z, .slice pu m cu⟩)) := Lib.hid (DBox.below (by repeat (first | with_reducible exact K6.out | with_reducible apply DBox.drewN | with_reducible apply DBox.drew | (with_reducible refine DBox.newAt ?_ ?_ <;> first | (simp; done) | rfl) | with_reducible apply DBox.alloc)) b)
      try clear k2a k2b k2c k2d k2e k2z
      have k2z := K2.out.lt
      obtain ⟨k2a, k2b, k2c, k2d, k2e⟩ := K2.out.cell
      try clear k2f
      have k2f := K2.out.frozen
      try clear k6a k6b k6c k6d k6z
      have k6z := K6.out.lt
      obtain ⟨k6a, k6b, k6c, k6d⟩ := K6.out.cell
      clear b
      go_wp2_with fail
      refine (HP.out _).mono ?_
      rintro e w2 ⟨rfl, b⟩
      have Sw2 := Lib.hid b.size
      have HB := Lib.hid (chain0 (w := w) (by repeat (first | with_reducible exact Below.refl _ _ | with_reducible exact HB.out | with_reducible apply Below.drew | with_reducible apply bdN | with_reducible refine Below.alloc ?_ (by first | exact Nat.le_refl _ | with_reducible exact HB.out.size | omega | (simp; done) | (simp; omega) | (have := HB.out.size; simp at *; omega)) _ | with_reducible refine Below.setCell ?_ (by first | exact Nat.le_refl _ | with_reducible exact HB.out.size | omega | (simp; done) | (simp; omega) | (have := HB.out.size; simp at *; omega)) _)) b)
      have HU := Lib.hid (Own.below (by repeat (first | with_reducible exact HU.out | with_reducible apply Own.drewN | with_reducible apply Own.drew | with_reducible apply Own.alloc)) b)
      have K2 : Hid (GBox _ (w.heap.size) (⟨27, 0, 0, .slice none 0 0, .slice none 0 0, .slice none 0 0⟩)) := Lib.hid (GBox.below (by repeat (first | with_reducible exact K2.out | with_reducible apply GBox.drewN | with_reducible apply GBox.drew | (with_reducible refine GBox.newAt ?_ ?_ <;> first | (simp; done) | rfl) | with_reducible apply GBox.alloc)) b)
      have K6 : Hid (DBox _ (g6) (⟨24, s, z, .slice pu m cu⟩)) := Lib.hid (DBox.below (by repeat (first | with_reducible exact K6.out | with_reducible apply DBox.drewN | with_reducible apply DBox.drew | (with_reducible refine DBox.newAt ?_ ?_ <;> first | (simp; done) | rfl) | with_reducible apply DBox.alloc)) b)
      try clear k2a k2b k2c k2d k2e k2z
      have k2z := K2.out.lt
      obtain ⟨k2a, k2b, k2c, k2d, k2e⟩ := K2.out.cell
      try clear k2f
      have k2f := K2.out.frozen
      try clear k6a k6b k6c k6d k6z
      have k6z := K6.out.lt
      obtain ⟨k6a, k6b, k6c, k6d⟩ := K6.out.cell
      clear b
      go_upto_region 4 with fail
      refine region_jobsB [0, 1, 3] [2, 4] [5, 6, 7] (fun j => if j = 2 then 23 else 25) (fun j v lo hi w' => (∀ g, v.ownBlock = some g → g < hi) ∧ OwnI w' lo v (List.replicate n 0)) (by kernel_rfl) (by kernel_rfl) rfl (by kernel_rfl) (by decide) (by decide) (fun j v lo hi wa wb h hb => ⟨h.1, h.2.below hb⟩) (fun w' => DBox w' g6 ⟨24, s, z, .slice pu m cu⟩) (fun w' h => K6.out.below h) ?_
      refine j_cell 21 (v := dval s z (.slice pu m cu)) rfl rfl rfl rfl (by kernel_rfl) (fun w' h => load_deal h) ?_
      refine j_pure 22 (v := .int .i64 n) rfl rfl rfl (fun w => by kernel_rfl) ?_
      refine j_pure 24 (v := .int .i64 n) rfl rfl rfl (fun w => by kernel_rfl) ?_
      refine ⟨fun j hj => ?_, fun w' M hI hM hd => ?_⟩
      · simp only [List.mem_cons, List.not_mem_nil, or_false] at hj
        rcases hj with rfl | rfl
        · refine ⟨_, rfl, rfl, rfl, of_decide_eq_true (by kernel_rfl), fun w' hI => ?_⟩
          rw [exec_makeI (n := n) (by omega) rfl (by kernel_rfl) (by kernel_rfl)]
          exact ⟨(Below.refl _ _).alloc (Nat.le_refl _) _, (fun g e => by have := OwnI.madeB w' n g e; simpa using this), own_madeI w' n (by omega)⟩
        · refine ⟨_, rfl, rfl, rfl, of_decide_eq_true (by kernel_rfl), fun w' hI => ?_⟩
          rw [exec_makeI (n := n) (by omega) rfl (by kernel_rfl) (by kernel_rfl)]
          exact ⟨(Below.refl _ _).alloc (Nat.le_refl _) _, (fun g e => by have := OwnI.madeB w' n g e; simpa using this), own_madeI w' n (by omega)⟩
      · obtain ⟨⟨v3, a3, b3⟩, e3, l3, m3, r3, c3, h3⟩ := hM 2 (by simp)
        obtain ⟨⟨v5, a5, b5⟩, e5, l5, m5, r5, c5, h5⟩ := hM 4 (by simp)
        have d35 := hd 2 (by simp) 4 (by simp) (by decide) _ _ e3 e5
        simp only at h3 h5 c3 c5 l3 m3 r3 l5 m5 r5 d35
        have hk6 := K6.out.lt
        have hus := HUs.out
        have hu' := Own.below HU.out hI
        have HG : OwnG w' (w.heap.size + 1) w'.heap.size (.slice pu m cu) v3 v5 L (List.replicate n 0) (List.replicate n 0) := OwnG.three (hu'.base (B' := w.heap.size + 1) (by simp)) h3 h5 (b1 := g6) HUl.out c3 c5 (by omega) (by omega) d35 ⟨by omega, by omega, by omega⟩ ⟨by have := Below.size hI; omega, r3, r5⟩
        obtain ⟨pl, cl, ps, cs, pw, cw, epl, rfl, rfl, _⟩ := HG.form
        simp only [putM, e3, e5]
        have K2' : Hid (GBox w' w.heap.size ⟨27, 0, 0, .slice none 0 0, .slice none 0 0, .slice none 0 0⟩) := Lib.hid (K2.out.below hI)
        have HB' := Lib.hid (HB.out.trans (Below.mono hI HB.out.size))
        have k2lt := K2.out.lt
        have HGs := Lib.hid (HG.out (out_sets w' w.heap.size (cvG s z (.slice pu m cu) (.slice ps (List.replicate n (0 : Int)).length cs) (.slice pw (List.replicate n (0 : Int)).length cw)).toList) (.inr (Nat.le_refl _)))
        have HK := Lib.hid (gbox_sets K2'.out s z (.slice pu m cu) (.slice ps (List.replicate n (0 : Int)).length cs) (.slice pw (List.replicate n (0 : Int)).length cw))
        have HBs := Lib.hid (Below.out HB'.out (out_sets w' w.heap.size (cvG s z (.slice pu m cu) (.slice ps (List.replicate n (0 : Int)).length cs) (.slice pw (List.replicate n (0 : Int)).length cw)).toList) HB'.out.size (Nat.le_refl _))
        have HSz := Lib.hid (out_sets w' w.heap.size (cvG s z (.slice pu m cu) (.slice ps (List.replicate n (0 : Int)).length cs) (.slice pw (List.replicate n (0 : Int)).length cw)).toList).size
        refine ⟨_, w', gval s z (.slice pu m cu) (.slice ps (List.replicate n (0 : Int)).length cs) (.slice pw (List.replicate n (0 : Int)).length cw), rfl, rfl, .inl (by kernel_rfl), K6.out.below hI, ?_⟩
        have hI2 : DBox (w'.setCells w.heap.size 0 (cvG s z (.slice pu m cu) (.slice ps (List.replicate n (0 : Int)).length cs) (.slice pw (List.replicate n (0 : Int)).length cw)).toList) g6 ⟨24, s, z, .slice pu m cu⟩ := ((out_sets w' w.heap.size _).block g6 (K6.out.below hI).lt (.inr (by omega))).trans (K6.out.below hI)
        refine ⟨_, w'.setCells w.heap.size 0 (cvG s z (.slice pu m cu) (.slice ps (List.replicate n (0 : Int)).length cs) (.slice pw (List.replicate n (0 : Int)).length cw)).toList, undef, rfl, rfl, .inr ⟨exec_storeG K2'.out (p := .tmp 4) (q := .tmp 26) (s := s) (n := z) (pl := pu) (ps := ps) (pw := pw) (nl := m) (cl := cu) (ns := (List.replicate n (0 : Int)).length) (cs := cs) (nw := (List.replicate n (0 : Int)).length) (cw := cw) rfl (by kernel_rfl) (by kernel_rfl), rfl⟩, hI2, ?_⟩
        refine ⟨_, w'.setCells w.heap.size 0 (cvG s z (.slice pu m cu) (.slice ps (List.replicate n (0 : Int)).length cs) (.slice pw (List.replicate n (0 : Int)).length cw)).toList, .bool true, rfl, rfl, .inl (by kernel_rfl), hI2, ?_⟩
        clear hM hd hI hI2 e3 e5 c3 c5 h3 h5 hu' HG
        simp only [runsS, Act.put, List.setIfInBounds_toArray, List.set_cons_zero, List.set_cons_succ, if_true, if_false, Nat.reduceEqDiff]
        generalize w'.setCells w.heap.size 0 (cvG s z (.slice pu m cu) (.slice ps (List.replicate n (0 : Int)).length cs) (.slice pw (List.replicate n (0 : Int)).length cw)).toList = W at HGs HK HBs HSz ⊢
        go_wp2_with fail
        try simp only [Exit.inBlock, Exit.then]
        refine bodyPost_ret (res_game2 Try.results15 rfl HK.out) rfl ?_
        exact ⟨_, _, _, rfl, (HGs.out.base (by omega)).top HSz.out, HBs.out⟩
end Go.Proofs.Yteccbcbijfcpmaa.game

