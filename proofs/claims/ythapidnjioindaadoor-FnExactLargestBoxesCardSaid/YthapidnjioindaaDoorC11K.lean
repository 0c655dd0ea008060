/- Contract: whether a box is valid, the model's. -/
import Derived.Test.YthapidnjioindaaDoorC11B
import Derived.Deep.DeepCutAuto
import Derived.Deep.RegionHeld3
namespace Go.Proofs.YthapidnjioindaaDoor
open Go.RowKit

/-- The box is valid. -/
def boxB (x y n : Int) : Bool := decide (1 ≤ n ∧ n ≤ 8) && (decide (0 ≤ x ∧ x ≤ 19) && (decide (0 ≤ y ∧ y ≤ 23) && whole (cellF allN) x.toNat y.toNat n.toNat))
theorem allN_lt (j : Nat) (_ : j < 24) : allN j < 1048576 := by unfold allN; omega
theorem allN_bit {i : Nat} (hi : i < 20) (j : Nat) : (allN j).testBit i = true := by
  show (2 ^ 20 - 1 : Nat).testBit i = true
  rw [Nat.testBit_two_pow_sub_one]; simpa using hi
end Go.Proofs.YthapidnjioindaaDoor
