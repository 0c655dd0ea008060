/- Contracts: the model's FieldDifferences and SameParts. -/
import Derived.Test.YtmogabnngphfgaaDoorFDiff
namespace Go.Proofs.YtmogabnngphfgaaDoor
open Go.RowKit

/-- The same tinctures in any order. -/
def samePB (X Y : List Int) : Bool := X.all (fun x => Y.contains x) && decide (X.length = Y.length)
theorem samePB_miss {X Y : List Int} {k : Nat} {x : Int} (hx : X[k]? = some x) (h : Y.contains x = false) : samePB X Y = false := by
  have : X.all (fun x => Y.contains x) = false := by
    rw [Bool.eq_false_iff]
    intro e
    have := List.all_eq_true.1 e x (List.mem_of_getElem? hx)
    rw [h] at this; cases this
  unfold samePB; rw [this]; rfl
theorem samePB_end {X Y : List Int} (h : X.take X.length |>.all fun x => Y.contains x) : samePB X Y = decide (X.length = Y.length) := by
  rw [List.take_length] at h
  unfold samePB; rw [h]; rfl
theorem all_in_succ {X Y : List Int} {k : Nat} {x : Int} (hx : X[k]? = some x) (h : (X.take k).all (fun x => Y.contains x) = true) (hg : Y.contains x = true) : (X.take (k + 1)).all (fun x => Y.contains x) = true := by
  rw [take_succ' hx, List.all_append, h]
  simp only [List.all_cons, List.all_nil, Bool.and_true, Bool.true_and]
  exact hg
end Go.Proofs.YtmogabnngphfgaaDoor
