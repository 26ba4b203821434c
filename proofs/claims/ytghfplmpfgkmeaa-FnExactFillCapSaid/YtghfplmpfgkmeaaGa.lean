/- All draws visited. -/
import Derived.Test.YtghfplmpfgkmeaaG7
import Derived.Test.YtghfplmpfgkmeaaG9
import Derived.Deep.Cut
namespace Go.Proofs.Ytghfplmpfgkmeaa.chance
open Go.RowKit
open cards reg
set_option linter.unusedVariables false

theorem then_ {S T : Nat → Prop} {w a b : World} (h : Turn S w a) (k : Turn T a b) (hT : ∀ j, j < w.heap.size → T j → S j) : Turn S w b :=
  ⟨k.os.trans h.os, k.tape.trans h.tape, k.output.trans h.output, Nat.le_trans h.size k.size, fun j hj hs => (k.block j (Nat.lt_of_lt_of_le hj h.size) (fun ht => hs (hT j hj ht))).trans (h.block j hj hs)⟩
theorem rd_tail {w : World} {b ad k cp : Nat} {l : List Cd} (h : Rd w (some ⟨b, ad, none⟩) (flat l)) (hk : l.length ≤ cp) : Rd w (some ⟨b, if cp = k then ad else ad + k * 4, none⟩) (flat (l.drop k)) := by
  split
  · rename_i e
    rw [List.drop_of_length_le (by omega)]
    exact fun hp => by simp [flat] at hp
  · exact h.drop k
theorem tot_cons (f : List Cd → Nat) {n j : Nat} {l b : List Cd} {x : Cd} (hx : l[j]? = some x) : tot f (n + 1) (l.drop j) b = tot f n (l.drop (j + 1)) (b ++ [x]) + tot f (n + 1) (l.drop (j + 1)) b := by
  obtain ⟨hj, e⟩ := List.getElem?_eq_some_iff.1 hx
  rw [List.drop_eq_getElem_cons hj, e, tot]
theorem sub_cons {l b l0 : List Cd} {j : Nat} {x : Cd} (hx : l[j]? = some x) (h : (b ++ l).Sublist l0) : ((b ++ [x]) ++ l.drop (j + 1)).Sublist l0 := by
  obtain ⟨hj, e⟩ := List.getElem?_eq_some_iff.1 hx
  have h1 : ((b ++ [x]) ++ l.drop (j + 1)) = b ++ l.drop j := by rw [List.drop_eq_getElem_cons hj, e]; simp
  rw [h1]
  exact (List.Sublist.append (List.Sublist.refl b) (List.drop_sublist j l)).trans h

end Go.Proofs.Ytghfplmpfgkmeaa.chance
