/- A row of cards of the call's own, sorted by the program's comparing function. -/
import Derived.Test.YtdhcdogmbclhaaaSf
import Derived.Test.YtdhcdogmbclhaaaSl
namespace Go.Proofs.Ytdhcdogmbclhaaa.cards
open Go.RowKit
set_option linter.unusedVariables false

theorem cmp_lays (blk off size : Nat) (w : World) : Go.Proofs.CmpLays Try.prog 77 #[] Cd.cells 4 cmpC blk off size w := fun _ _ _ _ x y => compare_grow x y _
theorem sort_cards (l : List Cd) (g n cap B : Nat) (w : World) (hn : l.length = n) (hl : n ≤ 1000) (hO : Own w B (.slice (some ⟨g, 0, none⟩) n cap) l) :
    Calls Try.prog 80 #[.slice (some ⟨g, 0, none⟩) n cap, .func (.func 77) #[] #[]] w fun e w' => e = .returned (.tuple #[]) ∧ ∃ l' : List Cd, l'.Perm l ∧ l'.length = n ∧ (∀ i j, i < j → j < n → ¬ cmpC l'[j]! l'[i]! < 0) ∧ Own w' B (.slice (some ⟨g, 0, none⟩) n cap) l' ∧ w.grownBy w' (some g) := by
  have eg : ∀ args w, (callFunc 77 args).run Try.prog w = .ok (.enter 77 args) w := enters_of Try.func77 (by kernel_rfl) rfl
  have hg : g < w.heap.size := (World.ownsRow.lt hO g rfl).2
  have hcon := Go.Proofs.AnyQ.slices_SortFunc Go.Proofs.Try.sortCd 4 Try.isAgg33 Try.sizeOf33 Cd.cells (fun _ => rfl) (fun x v hv => by simp [Cd.cells] at hv; rcases hv with rfl | rfl | rfl | rfl <;> rfl) cmpC swoC 77 #[] g 0 cap l.toArray w eg (cmp_lays g 0 _ w) (own_holds hn hO) hg (by simp; omega)
  have hsz : l.toArray.size = n := by simpa using hn
  rw [hsz] at hcon
  change Calls Try.prog 80 _ _ _ at hcon
  refine hcon.mono ?_
  rintro e w' ⟨rfl, d', q, os, ⟨hp1, hp2, hp3⟩, hs, rfl⟩
  have hd : d'.size = n := by rw [hp1, hsz]
  have e1 : (d'.extract 0 n).toList = d'.toList := by rw [← hd]; simp
  have e2 : (l.toArray.extract 0 n).toList = l := by rw [← hsz]; simp
  rw [e1, e2] at hp3
  have hlen : d'.toList.length = n := by simpa using hd
  have ho := own_put (q := q) (os := os) hn hlen hO
  refine ⟨rfl, d'.toList, hp3, hlen, fun i j hij hj => ?_, ?_, ?_⟩
  · have := hs i j (Nat.zero_le _) hij hj
    rw [ltC, decide_eq_false_iff_not] at this
    have g1 : d'.toList[j]! = d'[j]! := by simp [getElem!_def]
    have g2 : d'.toList[i]! = d'[i]! := by simp [getElem!_def]
    rw [g1, g2]; exact this
  · have h := ho.1; rw [Array.toArray_toList] at h; exact h
  · have h := ho.2; rw [Array.toArray_toList] at h; exact h
/-- Different cards, sorted: they are the hand of all of them. -/
theorem sorted_allPut {l l' : List Cd} {n : Nat} (hok : l.all Cd.ok = true) (hnd : l.Nodup) (hp : l'.Perm l) (hn : l'.length = n) (hs : ∀ i j, i < j → j < n → ¬ cmpC l'[j]! l'[i]! < 0) : l' = allPut l := by
  have hmem : ∀ x, x ∈ l' ↔ x ∈ l := fun x => hp.mem_iff
  have hnd' : l'.Nodup := hp.nodup_iff.2 hnd
  have hall := allPut_is hok
  refine sorted_ext ?_ hall.1 (fun x => (hmem x).trans (hall.2.2 x).symm)
  unfold sorted
  rw [List.pairwise_iff_getElem]
  intro i j hi hj hij
  have h1 := hs i j hij (by omega)
  rw [getElem!_pos l' i hi, getElem!_pos l' j hj] at h1
  have o1 : (l'[i]).ok = true := List.all_eq_true.1 hok _ ((hmem _).1 (List.getElem_mem hi))
  have o2 : (l'[j]).ok = true := List.all_eq_true.1 hok _ ((hmem _).1 (List.getElem_mem hj))
  rw [(cmp_num o2 o1).1] at h1
  have h2 : num l'[i] ≠ num l'[j] := fun e => by
    have hc : cmpC l'[i] l'[j] = 0 := (cmp_num o1 o2).2.2 e
    have : l'[i] = l'[j] := num_inj o1 o2 e
    exact (List.pairwise_iff_getElem.1 hnd') i j hi hj hij this
  omega
end Go.Proofs.Ytdhcdogmbclhaaa.cards
