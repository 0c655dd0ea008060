/- Contracts: the ordinaries as tests of cells, the program's and the model's. -/
import Derived.Test.YthapidnjioindaaC9P
namespace Go.Proofs.Ythapidnjioindaa
open Go.RowKit

/-- The cell is of the ordinary. -/
def ordB (o : Int) (x y : Nat) : Bool :=
  if o = 1 then (decide (7 ≤ (x : Int)) && decide ((x : Int) < 13)) else if o = 2 then (decide (8 ≤ (y : Int)) && decide ((y : Int) < 16))
  else if o = 3 then decide (absZ (fallZ x y) ≤ 160) else if o = 4 then (decide (11 ≤ gableZ x y) && decide (gableZ x y ≤ 22))
  else if o = 5 then ((decide (8 ≤ (x : Int)) && decide ((x : Int) < 12)) || (decide (10 ≤ (y : Int)) && decide ((y : Int) < 14)))
  else if o = 6 then (decide (absZ (fallZ x y) ≤ 120) || decide (absZ (riseZ x y) ≤ 120)) else if o = 7 then decide ((y : Int) < 8) else false
/-- The spot is of the ordinary. -/
def ordS (o sx sy f r g : Int) : Bool :=
  if o = 1 then (decide (7 ≤ sx) && decide (sx < 13)) else if o = 2 then (decide (8 ≤ sy) && decide (sy < 16))
  else if o = 3 then decide (absZ f ≤ 160) else if o = 4 then (decide (11 ≤ g) && decide (g ≤ 22))
  else if o = 5 then ((decide (8 ≤ sx) && decide (sx < 12)) || (decide (10 ≤ sy) && decide (sy < 14)))
  else if o = 6 then (decide (absZ f ≤ 120) || decide (absZ r ≤ 120)) else if o = 7 then decide (sy < 8) else false
theorem ordB_ordS (o : Int) (x y : Nat) : ordS o x y (fallZ x y) (riseZ x y) (gableZ x y) = ordB o x y := rfl
theorem in_and (a x b : Int) : decide (a ≤ x ∧ x ≤ b) = (decide (a ≤ x) && decide (x < b + 1)) := by
  by_cases h : a ≤ x <;> by_cases h' : x ≤ b
  · rw [decide_eq_true (show a ≤ x ∧ x ≤ b from ⟨h, h'⟩), decide_eq_true h, decide_eq_true (show x < b + 1 by omega)]; rfl
  · rw [decide_eq_false (show ¬(a ≤ x ∧ x ≤ b) from fun q => h' q.2), decide_eq_false (show ¬ x < b + 1 by omega)]; simp
  · rw [decide_eq_false (show ¬(a ≤ x ∧ x ≤ b) from fun q => h q.1), decide_eq_false h]; simp
  · rw [decide_eq_false (show ¬(a ≤ x ∧ x ≤ b) from fun q => h q.1), decide_eq_false h]; simp


end Go.Proofs.Ythapidnjioindaa
