/- Contracts: the parts of divisions and the ordinaries as tests of cells, the program's and the model's. -/
import Derived.Test.YthapidnjioindaaC9A
import Derived.Test.YthapidnjioindaaBoxP
namespace Go.Proofs.Ythapidnjioindaa
open Go.RowKit

/-- A number without its sign. -/
def absZ (n : Int) : Int := if n < 0 then -n else n
/-- Above the diagonal, by how much. -/
def fallZ (x y : Nat) : Int := 24 * (2 * (x : Int) + 1) - 20 * (2 * (y : Int) + 1)
def riseZ (x y : Nat) : Int := 24 * (40 - (2 * (x : Int) + 1)) - 20 * (2 * (y : Int) + 1)
def gableZ (x y : Nat) : Int := 2 * (y : Int) + 1 - absZ (2 * (x : Int) + 1 - 20)
/-- The cell is of the first part. -/
def firstB (d : Int) (x y : Nat) : Bool :=
  if d = 1 then decide ((x : Int) < 10) else if d = 2 then decide ((y : Int) < 12) else if d = 3 then decide (0 < fallZ x y)
  else if d = 4 then (decide ((x : Int) < 10) == decide ((y : Int) < 12)) else if d = 5 then (decide (0 < fallZ x y) == decide (0 < riseZ x y))
  else if d = 6 then 6 * (x : Int) / 20 % 2 == 0 else if d = 7 then 6 * (y : Int) / 24 % 2 == 0 else true
/-- A number brought between 0 and m. -/
def clampZ (n m : Int) : Int := if n < 0 then 0 else if m < n then m else n
/-- The column or row n, of so many, is of the first part's stripes. -/
def stripeB (n size : Int) : Bool := 6 * clampZ n (size - 1) / size % 2 == 0
/-- The spot is of the first part of a division. -/
def firstS (d sx sy f r : Int) : Bool :=
  if d = 1 then decide (sx < 10) else if d = 2 then decide (sy < 12) else if d = 3 then decide (0 < f)
  else if d = 4 then (decide (sx < 10) == decide (sy < 12)) else if d = 5 then (decide (0 < f) == decide (0 < r))
  else if d = 6 then stripeB sx 20 else if d = 7 then stripeB sy 24 else true
theorem clampZ_in {n m : Int} (h0 : 0 ≤ n) (h1 : n ≤ m) : clampZ n m = n := by unfold clampZ; rw [if_neg (by omega), if_neg (by omega)]
theorem firstB_firstS {d : Int} {x y : Nat} (hx : x < 20) (hy : y < 24) : firstS d x y (fallZ x y) (riseZ x y) = firstB d x y := by
  unfold firstS firstB stripeB
  rw [clampZ_in (by omega) (by omega), clampZ_in (by omega) (by omega)]
end Go.Proofs.Ythapidnjioindaa
