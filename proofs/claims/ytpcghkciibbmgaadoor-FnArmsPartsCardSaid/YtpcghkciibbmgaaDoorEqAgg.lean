/- Two groups compared: one boolean. -/
import Derived.Test.YtpcghkciibbmgaaDoorProg
import Derived.Test.YtpcghkciibbmgaaDoorBase
import Derived.WalkKit
namespace Go.Proofs.YtpcghkciibbmgaaDoor
open Go.RowKit

theorem eqGroup_run (c k a t c' k' a' t' : Int) (W : World) :
    (binOp .eql 27 (.agg #[.int .i64 c, .int .i64 k, .int .i64 a, .int .i64 t]) (.agg #[.int .i64 c', .int .i64 k', .int .i64 a', .int .i64 t'])).run Tryd.prog W = .ok (.bool (decide (c = c' ∧ k = k' ∧ a = a' ∧ t = t'))) W := by
  by_cases h1 : c = c' <;> by_cases h2 : k = k' <;> by_cases h3 : a = a' <;> by_cases h4 : t = t' <;> simp [go_sem, h1, h2, h3, h4]
theorem neGroup_run (c k a t c' k' a' t' : Int) (W : World) :
    (binOp .neq 27 (.agg #[.int .i64 c, .int .i64 k, .int .i64 a, .int .i64 t]) (.agg #[.int .i64 c', .int .i64 k', .int .i64 a', .int .i64 t'])).run Tryd.prog W = .ok (.bool (!decide (c = c' ∧ k = k' ∧ a = a' ∧ t = t'))) W := by
  by_cases h1 : c = c' <;> by_cases h2 : k = k' <;> by_cases h3 : a = a' <;> by_cases h4 : t = t' <;> simp [go_sem, h1, h2, h3, h4]
end Go.Proofs.YtpcghkciibbmgaaDoor
