/- A region that draws its order: operations that only read, then some that make memory in ANY order (each by its own word on what it makes), then the rest, one behind the other. ONE walk serves all orders. -/
import Derived.Test.YtjanphcfflahkaaVz
namespace Go.Proofs.Ytjanphcfflahkaa.cards
open Go.RowKit
open reg
set_option linter.unusedVariables false

section
variable {P : Program} {md : Region.Mode} {ops : Array Oper} {Q : Exit → Act → World → Prop} {S : World → Prop}
theorem Upon.imp {R R2 : Value → World → Prop} {q : Result Next} (h : Upon P R q) (hi : ∀ v w, R v w → R2 v w) : Upon P R2 q := by
  cases q with
  | ok n w' =>
    cases n <;> simp only [Upon] at h ⊢
    case value v => exact hi _ _ h
    case enter f args => exact h.mono fun e w'' ⟨v, he, hr⟩ => ⟨v, he, hi _ _ hr⟩
  | halt x w' => simp only [Upon] at h
theorem Upon.enter {R : Value → World → Prop} {q : Result Next} {f : FuncId} {args : Array Value} {w : World} (h : q = .ok (.enter f args) w) (hc : Calls P f args w (fun e w' => ∃ v, e = .returned v ∧ R v w')) : Upon P R q := by subst h; exact hc
def okJ (md : Region.Mode) (ops : Array Oper) (st : List Nat) : Nat → List Nat → Array Bool → Bool
  | 0, rem, l => (rem == []) && seqS md ops st l
  | n + 1, rem, l => (Region.ready md ops l != []) && (Region.ready md ops l).all (fun j => rem.contains j && okJ md ops st n (rem.erase j) (l.setIfInBounds j true))
def okPJ (md : Region.Mode) (ops : Array Oper) (js st : List Nat) : List Nat → Array Bool → Bool
  | [], l => okJ md ops st js.length js l
  | i :: r, l => Region.free md ops l i && (Region.ready md ops l).contains i && okPJ md ops js st r (l.setIfInBounds i true)
theorem jobs_of {st : List Nat} {J : List Nat → Act → World → Prop} (hS : ∀ rem a w, J rem a w → S w)
    (hs : ∀ rem j a w, j ∈ rem → J rem a w → ∃ o, ops[j]? = some o ∧ o.guard = none ∧ Upon P (fun v w' => J (rem.erase j) (a.put o.dst v) w') ((execOp a.eval o).run P w))
    (hK : ∀ a w, J [] a w → runsS P ops S (Q .normal) st a w) :
    ∀ (n : Nat) (rem : List Nat) (l : Array Bool) (a : Act) (w : World), okJ md ops st n rem l = true → J rem a w → wpAnyH P md ops Q S (n + st.length) l a w
  | 0, rem, l, a, w, hok, h => by
    simp only [okJ, Bool.and_eq_true, beq_iff_eq] at hok
    obtain ⟨h1, h2⟩ := hok
    subst h1
    rw [Nat.zero_add]
    exact seq_of st l a w h2 (hS _ _ _ h) (hK a w h)
  | n + 1, rem, l, a, w, hok, h => by
    simp only [okJ, Bool.and_eq_true, bne_iff_ne, List.all_eq_true] at hok
    obtain ⟨h1, h2⟩ := hok
    rw [show n + 1 + st.length = (n + st.length) + 1 by omega]
    refine wpAnyH_all rfl h1 fun j hj => ?_
    obtain ⟨h3, h4⟩ := h2 j hj
    obtain ⟨o, ho, hg, hr⟩ := hs rem j a w (List.contains_iff_mem.1 h3) h
    exact wpOp_upon ho hg hr fun v w' hJ => ⟨hS _ _ _ hJ, jobs_of hS hs hK n _ _ _ _ h4 hJ⟩
/-- Operations that only read, each taken at once. -/
def pureJ (P : Program) (ops : Array Oper) (S : World → Prop) (K : Act → Prop) : List Nat → Act → Prop
  | [], a => K a
  | i :: r, a => ∃ o v, ops[i]? = some o ∧ YieldsIf P ops S o v a ∧ pureJ P ops S K r (a.put o.dst v)
theorem pures_of {js st : List Nat} {I : World → Prop} (hsel : Region.noSelect ops = true) (hQ : ∀ c (d : Option Tmp) v a w, Q (.panic c) (a.put d v) w → Q (.panic c) a w) (hc : ∀ w, I w → S w) {K : Act → Prop}
    (hK : ∀ a w l, K a → I w → okJ md ops st js.length js l = true → wpAnyH P md ops Q S (js.length + st.length) l a w) :
    ∀ (r : List Nat) (l : Array Bool) (a : Act) (w : World), okPJ md ops js st r l = true → I w → pureJ P ops S K r a → wpAnyH P md ops Q S (r.length + (js.length + st.length)) l a w
  | [], l, a, w, hok, hI, h => by
    rw [List.length_nil, Nat.zero_add]
    exact hK a w l h hI hok
  | i :: r, l, a, w, hok, hI, h => by
    simp only [okPJ, Bool.and_eq_true] at hok
    obtain ⟨⟨h1, h2⟩, h7⟩ := hok
    obtain ⟨o, v, ho, hy, hr⟩ := h
    rw [List.length_cons, show r.length + 1 + (js.length + st.length) = (r.length + (js.length + st.length)) + 1 by omega]
    exact wpAnyH_take (v := v) ho hsel h1 h2 (fun c a w => hQ c _ _ a w) hy (hc _ hI) (pures_of hsel hQ hc hK r _ _ w h7 hI hr)
abbrev Mk := Nat → Option (Value × Nat × Nat)
def putM (a : Act) (dst : Nat → Tmp) (M : Mk) : List Nat → Act
  | [] => a
  | j :: r => match M j with
    | some x => (putM a dst M r).put (some (dst j)) x.1
    | none => putM a dst M r
def updM (M : Mk) (j : Nat) (x : Value × Nat × Nat) : Mk := fun k => if k = j then some x else M k
theorem putM_off {a : Act} {dst : Nat → Tmp} {M : Mk} {j : Nat} {x : Value × Nat × Nat} : ∀ {js : List Nat}, j ∉ js → putM a dst (updM M j x) js = putM a dst M js
  | [], _ => rfl
  | k :: r, h => by
    have hk : k ≠ j := fun e => h (by simp [e])
    have ih := putM_off (a := a) (dst := dst) (M := M) (x := x) (js := r) (fun hm => h (List.mem_cons_of_mem _ hm))
    have e : updM M j x k = M k := if_neg hk
    simp only [putM, e, ih]
theorem putM_upd {a : Act} {dst : Nat → Tmp} {M : Mk} {j : Nat} {x : Value × Nat × Nat} : ∀ {js : List Nat}, j ∈ js → js.Nodup → (∀ k ∈ js, k ≠ j → dst k ≠ dst j) → M j = none → (putM a dst M js).put (some (dst j)) x.1 = putM a dst (updM M j x) js
  | [], h, _, _, _ => by simp at h
  | k :: r, h, hn, hd, hM => by
    obtain ⟨hkr, hnr⟩ := List.nodup_cons.1 hn
    by_cases hk : k = j
    · subst hk
      have e : updM M k x k = some x := if_pos rfl
      simp only [putM, e, hM, putM_off hkr]
    · have hj : j ∈ r := by
        rcases List.mem_cons.1 h with e | e
        · exact absurd e.symm hk
        · exact e
      have ih := putM_upd (a := a) (dst := dst) (M := M) (x := x) hj hnr (fun k' hk' => hd k' (by simp [hk'])) hM
      have e : updM M j x k = M k := if_neg hk
      have hne := hd k (by simp) hk
      simp only [putM, e]
      cases hMk : M k with
      | none => exact ih
      | some y =>
        simp only
        rw [← ih]
        exact Act.put_comm _ (x := some (dst k)) (y := some (dst j)) _ _ (fun e he => by cases he; intro h2; injection h2 with h2; exact hne h2.symm)
theorem exec_putM {o : Oper} (hs : ∀ cs b, o.op ≠ .select cs b) {a : Act} {dst : Nat → Tmp} {M : Mk} : ∀ {js : List Nat}, (∀ k ∈ js, dst k ∉ o.looksAt ops) → execOp (putM a dst M js).eval o = execOp a.eval o
  | [], _ => rfl
  | k :: r, h => by
    have ih := exec_putM hs (a := a) (dst := dst) (M := M) (js := r) (fun k' hk' => h k' (by simp [hk']))
    simp only [putM]
    split
    · rw [execOp_put (ops := ops) o hs _ (some (dst k)) _ (fun e he => by cases he; exact h k (by simp)), ih]
    · exact ih
/-- What each of the jobs does, and what is to come behind them all. -/
structure JobsK (P : Program) (ops : Array Oper) (S I : World → Prop) (Q : Exit → Act → World → Prop) (n0 : Nat) (js st : List Nat) (dst : Nat → Tmp) (R : Nat → Value → Nat → Nat → World → Prop) (a0 : Act) : Prop where
  job : ∀ j ∈ js, ∃ o, ops[j]? = some o ∧ o.guard = none ∧ o.dst = some (dst j) ∧ (∀ k ∈ js, dst k ∉ o.looksAt ops) ∧ ∀ w, I w → Upon P (fun v w' => Below w.heap.size w w' ∧ R j v w.heap.size w'.heap.size w') ((execOp a0.eval o).run P w)
  fin : ∀ (w : World) (M : Mk), I w → (∀ j ∈ js, ∃ x, M j = some x ∧ n0 ≤ x.2.1 ∧ x.2.1 ≤ x.2.2 ∧ x.2.2 ≤ w.heap.size ∧ R j x.1 x.2.1 x.2.2 w) → (∀ j ∈ js, ∀ k ∈ js, j ≠ k → ∀ x y, M j = some x → M k = some y → x.2.2 ≤ y.2.1 ∨ y.2.2 ≤ x.2.1) → runsS P ops S (Q .normal) st (putM a0 dst M js) w
theorem jobsK_of {S I : World → Prop} {n0 : Nat} {js st : List Nat} {dst : Nat → Tmp} {R : Nat → Value → Nat → Nat → World → Prop} {a0 : Act} (hsel : Region.noSelect ops = true) (hnd : js.Nodup) (hdst : ∀ j ∈ js, ∀ k ∈ js, j ≠ k → dst j ≠ dst k)
    (hc : ∀ w, I w → S w) (hn0 : ∀ w, I w → n0 ≤ w.heap.size) (hgrow : ∀ w w', I w → Below w.heap.size w w' → I w') (hR : ∀ j v lo hi w w', R j v lo hi w → Below w.heap.size w w' → R j v lo hi w')
    (h : JobsK P ops S I Q n0 js st dst R a0) (l : Array Bool) (w : World) (hI : I w) (hok : okJ md ops st js.length js l = true) : wpAnyH P md ops Q S (js.length + st.length) l a0 w := by
  refine jobs_of (J := fun rem a w => ∃ M : Mk, a = putM a0 dst M js ∧ I w ∧ (∀ k ∈ js, k ∈ rem ↔ M k = none) ∧ (∀ k ∈ js, ∀ x, M k = some x → n0 ≤ x.2.1 ∧ x.2.1 ≤ x.2.2 ∧ x.2.2 ≤ w.heap.size ∧ R k x.1 x.2.1 x.2.2 w) ∧ (∀ j ∈ js, ∀ k ∈ js, j ≠ k → ∀ x y, M j = some x → M k = some y → x.2.2 ≤ y.2.1 ∨ y.2.2 ≤ x.2.1) ∧ rem.Nodup ∧ ∀ k ∈ rem, k ∈ js) ?_ ?_ ?_ js.length js l a0 w hok ?_
  · rintro rem a w ⟨M, _, h2, _⟩
    exact hc _ h2
  · rintro rem j a w hj ⟨M, rfl, h2, h3, h4, h5, h6, h7⟩
    have hjs := h7 j hj
    obtain ⟨o, ho, hg, hd, hl, hu⟩ := h.job j hjs
    refine ⟨o, ho, hg, ?_⟩
    rw [exec_putM (Region.noSelect_spec hsel j o · · ho) hl]
    refine Upon.imp (hu w h2) ?_
    rintro v w' ⟨b, hr⟩
    have hMj : M j = none := (h3 j hjs).1 hj
    refine ⟨updM M j (v, w.heap.size, w'.heap.size), ?_, hgrow _ _ h2 b, ?_, ?_, ?_, h6.erase _, fun k hk => h7 k (List.mem_of_mem_erase hk)⟩
    · rw [hd]
      exact putM_upd (x := (v, w.heap.size, w'.heap.size)) hjs hnd (fun k hk hne => hdst k hk j hjs hne) hMj
    · intro k hk
      unfold updM
      by_cases e : k = j
      · subst e
        rw [if_pos rfl]
        simp [h6.not_mem_erase]
      · rw [if_neg e, List.mem_erase_of_ne e]
        exact h3 k hk
    · intro k hk x hx
      unfold updM at hx
      split at hx
      · rename_i e
        subst e
        injection hx with hx
        subst hx
        exact ⟨hn0 _ h2, b.size, Nat.le_refl _, hr⟩
      · obtain ⟨g1, g2, g3, g4⟩ := h4 k hk x hx
        exact ⟨g1, g2, Nat.le_trans g3 b.size, hR _ _ _ _ _ _ g4 b⟩
    · intro i hi k hk hne x y hx hy
      unfold updM at hx hy
      split at hx
      · rename_i e
        subst e
        rw [if_neg (Ne.symm hne)] at hy
        injection hx with hx
        subst hx
        exact .inr (h4 k hk y hy).2.2.1
      · split at hy
        · rename_i e
          subst e
          injection hy with hy
          subst hy
          exact .inl (h4 i hi x hx).2.2.1
        · exact h5 i hi k hk hne x y hx hy
  · rintro a w ⟨M, rfl, h2, h3, h4, h5, h6, h7⟩
    refine h.fin w M h2 (fun j hj => ?_) h5
    cases hM : M j with
    | none => exact absurd ((h3 j hj).2 hM) (by simp)
    | some x => exact ⟨x, rfl, h4 j hj x hM⟩
  · refine ⟨fun _ => none, ?_, hI, fun k hk => by simp [hk], (fun k hk x hx => by cases hx), (fun i hi k hk hne x y hx => by cases hx), hnd, fun k hk => hk⟩
    have : ∀ js : List Nat, a0 = putM a0 dst (fun _ => none) js := by
      intro js
      induction js with
      | nil => rfl
      | cons j r ih => exact ih
    exact this js
theorem JobsK.noPanic {I : World → Prop} {n0 : Nat} {js st : List Nat} {dst : Nat → Tmp} {R : Nat → Value → Nat → Nat → World → Prop} {a0 : Act} (h : JobsK P ops S I Q n0 js st dst R a0) : JobsK P ops S I (NoPanic Q) n0 js st dst R a0 := by
  refine ⟨h.job, fun w M a1 a2 a3 => ?_⟩
  have mono : ∀ (st : List Nat) (a : Act) (w : World), runsS P ops S (Q .normal) st a w → runsS P ops S (NoPanic Q .normal) st a w := by
    intro st
    induction st with
    | nil => intro a w h; exact NoPanic.normal h
    | cons j st ih => rintro a w ⟨o, w', v, e1, e2, e3, e4, e5⟩; exact ⟨o, w', v, e1, e2, e3, e4, ih _ _ e5⟩
  exact mono _ _ _ (h.fin w M a1 a2 a3)
theorem pureJ_imp {K K2 : Act → Prop} (hK : ∀ a, K a → K2 a) : ∀ (r : List Nat) (a : Act), pureJ P ops S K r a → pureJ P ops S K2 r a
  | [], a, h => hK _ h
  | i :: r, a, ⟨o, v, ho, hy, hr⟩ => ⟨o, v, ho, hy, pureJ_imp hK r _ hr⟩
/-- THE LAW. -/
theorem region_jobs {id : Nat} {a : Act} {w : World} (r js st : List Nat) (dst : Nat → Tmp) (R : Nat → Value → Nat → Nat → World → Prop) (n0 : Nat) (S I : World → Prop) (hm : P.follows .mixedOrders = true)
    (hok : okPJ .any ops js st r (Array.replicate ops.size false) = true) (hlen : ops.size = r.length + (js.length + st.length)) (hsel : Region.noSelect ops = true) (hnd : js.Nodup) (hdst : ∀ j ∈ js, ∀ k ∈ js, j ≠ k → dst j ≠ dst k)
    (hc : ∀ w, I w → S w) (hn0 : ∀ w, I w → n0 ≤ w.heap.size) (hgrow : ∀ w w', I w → Below w.heap.size w w' → I w') (hR : ∀ j v lo hi w w', R j v lo hi w → Below w.heap.size w w' → R j v lo hi w') (hI : I w.drew)
    (h : pureJ P ops S (JobsK P ops S I Q n0 js st dst R) r a) : (Code.region id ops true).wp P Q a w := by
  refine wp_region_noPanic (wp_region_held hm (S := S) ?_)
  have k := pures_of (md := .any) (Q := NoPanic Q) (S := S) (I := I) (js := js) (st := st) hsel (fun _ _ _ _ _ h => h) hc (K := JobsK P ops S I Q n0 js st dst R) (fun a w l hK hI hok => jobsK_of hsel hnd hdst hc hn0 hgrow hR hK.noPanic l w hI hok) r _ a _ hok hI h
  rw [← hlen] at k; exact k
/-- The same where what is known of the world is that nothing has turned but from block w.heap.size on. -/
theorem region_jobsB {id : Nat} {a : Act} {w : World} (r js st : List Nat) (dst : Nat → Tmp) (R : Nat → Value → Nat → Nat → World → Prop) (hm : P.follows .mixedOrders = true)
    (hok : okPJ .any ops js st r (Array.replicate ops.size false) = true) (hlen : ops.size = r.length + (js.length + st.length)) (hsel : Region.noSelect ops = true) (hnd : js.Nodup) (hdst : ∀ j ∈ js, ∀ k ∈ js, j ≠ k → dst j ≠ dst k)
    (hR : ∀ j v lo hi w w', R j v lo hi w → Below w.heap.size w w' → R j v lo hi w') (S : World → Prop) (hc : ∀ w', BI w w' → S w')
    (h : pureJ P ops S (JobsK P ops S (BI w) Q w.heap.size js st dst R) r a) : (Code.region id ops true).wp P Q a w :=
  region_jobs r js st dst R w.heap.size S (BI w) hm hok hlen hsel hnd hdst hc (fun _ h => Below.size h) (fun _ _ h b => BI.next h b) hR (BI.start w) h
end
section
variable {ops : Array Oper} {S : World → Prop} {K : Act → Prop}
theorem j_pure (d : Tmp) {i : Nat} {r : List Nat} {a : Act} {v : Value} {o : Oper} (ho : ops[i]? = some o) (hd : o.dst = some d) (hg : o.guard = none)
    (he : ∀ w, (execOp a.eval o).run Try.prog w = .ok (.value v) w) (hr : pureJ Try.prog ops S K r (a.put (some d) v)) : pureJ Try.prog ops S K (i :: r) a :=
  ⟨o, v, ho, .inl ⟨wanted_of hg, fun w _ => he w⟩, hd ▸ hr⟩
/-- One cell is read. -/
theorem j_cell (d : Tmp) {i : Nat} {r : List Nat} {a : Act} {v : Value} {o : Oper} {T : TypeId} {x : Operand} {p : Addr} (ho : ops[i]? = some o) (hd : o.dst = some d) (hg : o.guard = none) (hop : o.op = .load T x) (hx : a.eval x = .pointer (some p))
    (hc : ∀ w, S w → (loadVar T p).run Try.prog w = .ok v w) (hr : pureJ Try.prog ops S K r (a.put (some d) v)) : pureJ Try.prog ops S K (i :: r) a :=
  ⟨o, v, ho, .inl ⟨wanted_of hg, fun w hw => by
    unfold execOp
    rw [hop]
    simp only [hx]
    have h := hc w hw
    simp [Instr.loadAt, Instr.sureAddr, asAddr, h, Result.andThen]⟩, hd ▸ hr⟩
end
end Go.Proofs.Ytjanphcfflahkaa.cards
