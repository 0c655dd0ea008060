/- Contracts: is it a list of tinctures; is a number in a list. -/
import Derived.Test.YtkhpgggaaldhhaaDoorTMath
import Derived.Test.YtkhpgggaaldhhaaDoorIntRows
namespace Go.Proofs.YtkhpgggaaldhhaaDoor
open Go.RowKit

theorem ret_bool {a b : Bool} (h : a = b) : Ending.returned (.bool a) = .returned (.bool b) := by rw [h]

theorem has_hit {X : List Int} {k : Nat} {x : Int} (hx : X[k]? = some x) : X.contains x = true := by
  rw [List.contains_iff_mem]; exact List.mem_of_getElem? hx
theorem has_step {X : List Int} {k : Nat} {y x : Int} (hx : X[k]? = some y) (h : (X.take k).contains x = false) (hne : y ≠ x) : (X.take (k + 1)).contains x = false := by
  rw [take_succ' hx]
  have h1 : x ∉ X.take k := by simpa using h
  simp only [List.contains_eq_mem, List.mem_append, List.mem_singleton, decide_eq_false_iff_not]
  rintro (h2 | h2)
  · exact h1 h2
  · exact hne h2.symm



end Go.Proofs.YtkhpgggaaldhhaaDoor
