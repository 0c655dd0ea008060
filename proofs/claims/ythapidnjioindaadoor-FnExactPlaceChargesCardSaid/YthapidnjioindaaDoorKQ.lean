/- Several small texts in one: EqArms, EqAgg. -/
import Derived.Test.YthapidnjioindaaDoorProg
import Derived.Test.YthapidnjioindaaDoorKA
import Derived.WalkKit
namespace Go.Proofs.YthapidnjioindaaDoor
open Go.RowKit

theorem eqGroup_run (c k a t c' k' a' t' : Int) (W : World) :
    (binOp .eql 58 (.agg #[.int .i64 c, .int .i64 k, .int .i64 a, .int .i64 t]) (.agg #[.int .i64 c', .int .i64 k', .int .i64 a', .int .i64 t'])).run Tryd.prog W = .ok (.bool (decide (c = c' ∧ k = k' ∧ a = a' ∧ t = t'))) W := by
  by_cases h1 : c = c' <;> by_cases h2 : k = k' <;> by_cases h3 : a = a' <;> by_cases h4 : t = t' <;> simp [go_sem, h1, h2, h3, h4]
theorem neGroup_run (c k a t c' k' a' t' : Int) (W : World) :
    (binOp .neq 58 (.agg #[.int .i64 c, .int .i64 k, .int .i64 a, .int .i64 t]) (.agg #[.int .i64 c', .int .i64 k', .int .i64 a', .int .i64 t'])).run Tryd.prog W = .ok (.bool (!decide (c = c' ∧ k = k' ∧ a = a' ∧ t = t'))) W := by
  by_cases h1 : c = c' <;> by_cases h2 : k = k' <;> by_cases h3 : a = a' <;> by_cases h4 : t = t' <;> simp [go_sem, h1, h2, h3, h4]
end Go.Proofs.YthapidnjioindaaDoor
namespace Go.Proofs.YthapidnjioindaaDoor
open Go.RowKit

set_option maxHeartbeats 4000000 in
theorem eqArms_run (d l f s o n x c k a t c' k' a' t' u0 u1 u2 u3 u4 u5 u6 u7 u8 u9 u10 u11 u12 u13 u14 : Int) (W : World) :
    (binOp .eql 60 (.agg #[.int .i64 d, .int .i64 l, .int .i64 f, .int .i64 s, .int .i64 o, .int .i64 n, .int .i64 x, .int .i64 c, .int .i64 k, .int .i64 a, .int .i64 t, .int .i64 c', .int .i64 k', .int .i64 a', .int .i64 t']) (.agg #[.int .i64 u0, .int .i64 u1, .int .i64 u2, .int .i64 u3, .int .i64 u4, .int .i64 u5, .int .i64 u6, .int .i64 u7, .int .i64 u8, .int .i64 u9, .int .i64 u10, .int .i64 u11, .int .i64 u12, .int .i64 u13, .int .i64 u14])).run Tryd.prog W = .ok (.bool (decide (d = u0 ∧ l = u1 ∧ f = u2 ∧ s = u3 ∧ o = u4 ∧ n = u5 ∧ x = u6 ∧ c = u7 ∧ k = u8 ∧ a = u9 ∧ t = u10 ∧ c' = u11 ∧ k' = u12 ∧ a' = u13 ∧ t' = u14))) W := by
  by_cases h0 : d = u0
  case neg => simp [go_sem, h0]
  by_cases h1 : l = u1
  case neg => simp [go_sem, h0, h1]
  by_cases h2 : f = u2
  case neg => simp [go_sem, h0, h1, h2]
  by_cases h3 : s = u3
  case neg => simp [go_sem, h0, h1, h2, h3]
  by_cases h4 : o = u4
  case neg => simp [go_sem, h0, h1, h2, h3, h4]
  by_cases h5 : n = u5
  case neg => simp [go_sem, h0, h1, h2, h3, h4, h5]
  by_cases h6 : x = u6
  case neg => simp [go_sem, h0, h1, h2, h3, h4, h5, h6]
  by_cases h7 : c = u7
  case neg => simp [go_sem, h0, h1, h2, h3, h4, h5, h6, h7]
  by_cases h8 : k = u8
  case neg => simp [go_sem, h0, h1, h2, h3, h4, h5, h6, h7, h8]
  by_cases h9 : a = u9
  case neg => simp [go_sem, h0, h1, h2, h3, h4, h5, h6, h7, h8, h9]
  by_cases h10 : t = u10
  case neg => simp [go_sem, h0, h1, h2, h3, h4, h5, h6, h7, h8, h9, h10]
  by_cases h11 : c' = u11
  case neg => simp [go_sem, h0, h1, h2, h3, h4, h5, h6, h7, h8, h9, h10, h11]
  by_cases h12 : k' = u12
  case neg => simp [go_sem, h0, h1, h2, h3, h4, h5, h6, h7, h8, h9, h10, h11, h12]
  by_cases h13 : a' = u13
  case neg => simp [go_sem, h0, h1, h2, h3, h4, h5, h6, h7, h8, h9, h10, h11, h12, h13]
  by_cases h14 : t' = u14
  case neg => simp [go_sem, h0, h1, h2, h3, h4, h5, h6, h7, h8, h9, h10, h11, h12, h13, h14]
  simp [go_sem, h0, h1, h2, h3, h4, h5, h6, h7, h8, h9, h10, h11, h12, h13, h14]
set_option maxHeartbeats 4000000 in
theorem neArms_run (d l f s o n x c k a t c' k' a' t' u0 u1 u2 u3 u4 u5 u6 u7 u8 u9 u10 u11 u12 u13 u14 : Int) (W : World) :
    (binOp .neq 60 (.agg #[.int .i64 d, .int .i64 l, .int .i64 f, .int .i64 s, .int .i64 o, .int .i64 n, .int .i64 x, .int .i64 c, .int .i64 k, .int .i64 a, .int .i64 t, .int .i64 c', .int .i64 k', .int .i64 a', .int .i64 t']) (.agg #[.int .i64 u0, .int .i64 u1, .int .i64 u2, .int .i64 u3, .int .i64 u4, .int .i64 u5, .int .i64 u6, .int .i64 u7, .int .i64 u8, .int .i64 u9, .int .i64 u10, .int .i64 u11, .int .i64 u12, .int .i64 u13, .int .i64 u14])).run Tryd.prog W = .ok (.bool (!decide (d = u0 ∧ l = u1 ∧ f = u2 ∧ s = u3 ∧ o = u4 ∧ n = u5 ∧ x = u6 ∧ c = u7 ∧ k = u8 ∧ a = u9 ∧ t = u10 ∧ c' = u11 ∧ k' = u12 ∧ a' = u13 ∧ t' = u14))) W := by
  by_cases h0 : d = u0
  case neg => simp [go_sem, h0]
  by_cases h1 : l = u1
  case neg => simp [go_sem, h0, h1]
  by_cases h2 : f = u2
  case neg => simp [go_sem, h0, h1, h2]
  by_cases h3 : s = u3
  case neg => simp [go_sem, h0, h1, h2, h3]
  by_cases h4 : o = u4
  case neg => simp [go_sem, h0, h1, h2, h3, h4]
  by_cases h5 : n = u5
  case neg => simp [go_sem, h0, h1, h2, h3, h4, h5]
  by_cases h6 : x = u6
  case neg => simp [go_sem, h0, h1, h2, h3, h4, h5, h6]
  by_cases h7 : c = u7
  case neg => simp [go_sem, h0, h1, h2, h3, h4, h5, h6, h7]
  by_cases h8 : k = u8
  case neg => simp [go_sem, h0, h1, h2, h3, h4, h5, h6, h7, h8]
  by_cases h9 : a = u9
  case neg => simp [go_sem, h0, h1, h2, h3, h4, h5, h6, h7, h8, h9]
  by_cases h10 : t = u10
  case neg => simp [go_sem, h0, h1, h2, h3, h4, h5, h6, h7, h8, h9, h10]
  by_cases h11 : c' = u11
  case neg => simp [go_sem, h0, h1, h2, h3, h4, h5, h6, h7, h8, h9, h10, h11]
  by_cases h12 : k' = u12
  case neg => simp [go_sem, h0, h1, h2, h3, h4, h5, h6, h7, h8, h9, h10, h11, h12]
  by_cases h13 : a' = u13
  case neg => simp [go_sem, h0, h1, h2, h3, h4, h5, h6, h7, h8, h9, h10, h11, h12, h13]
  by_cases h14 : t' = u14
  case neg => simp [go_sem, h0, h1, h2, h3, h4, h5, h6, h7, h8, h9, h10, h11, h12, h13, h14]
  simp [go_sem, h0, h1, h2, h3, h4, h5, h6, h7, h8, h9, h10, h11, h12, h13, h14]
end Go.Proofs.YthapidnjioindaaDoor
