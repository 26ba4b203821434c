/- Maps: the Map back, and the Map that shifts: plain mathematics. -/
import Derived.Test.YtfbcjcfhdclklaaMj
namespace Go.Proofs.Ytfbcjcfhdclklaa.maps
open Go.RowKit
open cards
set_option linter.unusedVariables false

def bkRow (m : Mp) (k f : Nat) (M : Mp) : Nat → Mp
  | 0 => M
  | v + 1 => pV (bkRow m k f M v) f (get3 (getV m k) v).toNat v
def bkTo (m : Mp) : Nat → Mp
  | 0 => zeroM
  | k + 1 => bkRow m k (get4 m.t k).toNat (pT (bkTo m k) (get4 m.t k).toNat k) 3
/-- What MapBack returns. -/
def bkR (m : Mp) : Mp × Bool := if m.ok = true then (bkTo m 4, true) else (zeroM, false)

def shv (a b : Cd) (k v : Nat) : Int := ((v : Int) + 3 + get4 b k - get4 a k) % 3
def shRow (a b : Cd) (k : Nat) (M : Mp) : Nat → Mp
  | 0 => M
  | v + 1 => pV (shRow a b k M v) k v (shv a b k v)
/-- As the program goes: traits one by one. -/
def shTo (a b : Cd) : Nat → Mp
  | 0 => zeroM
  | k + 1 => shRow a b k (pT (shTo a b k) k k) 3
/-- As the model goes: the traits at once. -/
def shTo' (a b : Cd) : Nat → Mp
  | 0 => ⟨id4, zero3, zero3, zero3, zero3⟩
  | k + 1 => shRow a b k (shTo' a b k) 3
theorem sh_same (a b : Cd) : shTo' a b 4 = shTo a b 4 := rfl
/-- What ShiftTo returns. -/
def shR (a b : Cd) : Mp × Bool := if a.ok = true ∧ b.ok = true then (shTo a b 4, true) else (zeroM, false)
theorem shv_ok (a b : Cd) (k v : Nat) : 0 ≤ shv a b k v ∧ shv a b k v ≤ 2 := by unfold shv; omega
end Go.Proofs.Ytfbcjcfhdclklaa.maps
