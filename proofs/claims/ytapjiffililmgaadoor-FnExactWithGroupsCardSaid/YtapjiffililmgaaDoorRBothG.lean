/- Contracts: WithGroups of the program and of the model: the same answer. -/
import Derived.Test.YtapjiffililmgaaDoorRWithG
import Derived.Test.YtapjiffililmgaaDoorArmsG
namespace Go.Proofs.YtapjiffililmgaaDoor
open Go.RowKit

theorem bothG_both (d l f s o n x c k a t c' k' a' t' b0 b1 b2 b3 e0 e1 e2 e3 : Int) (w : World) (hA : AttsLie w) :
    ∃ (m0 m1 m2 m3 m4 m5 m6 m7 m8 m9 m10 m11 m12 m13 m14 : Int) (ok : Bool), (∀ W, Calls Tryd.prog 44 #[.agg #[.int .i64 d, .int .i64 l, .int .i64 f, .int .i64 s, .int .i64 o, .int .i64 n, .int .i64 x, .int .i64 c, .int .i64 k, .int .i64 a, .int .i64 t, .int .i64 c', .int .i64 k', .int .i64 a', .int .i64 t'], .agg #[.int .i64 b0, .int .i64 b1, .int .i64 b2, .int .i64 b3], .agg #[.int .i64 e0, .int .i64 e1, .int .i64 e2, .int .i64 e3]] W (AnsA W m0 m1 m2 m3 m4 m5 m6 m7 m8 m9 m10 m11 m12 m13 m14 ok)) ∧ (∀ W, Below w.heap.size w W → Calls Tryd.prog 30 #[.agg #[.int .i64 d, .int .i64 l, .int .i64 f, .int .i64 s, .int .i64 o, .int .i64 n, .int .i64 x, .int .i64 c, .int .i64 k, .int .i64 a, .int .i64 t, .int .i64 c', .int .i64 k', .int .i64 a', .int .i64 t'], .agg #[.int .i64 b0, .int .i64 b1, .int .i64 b2, .int .i64 b3], .agg #[.int .i64 e0, .int .i64 e1, .int .i64 e2, .int .i64 e3]] W (AnsA W m0 m1 m2 m3 m4 m5 m6 m7 m8 m9 m10 m11 m12 m13 m14 ok)) := by
  obtain ⟨r, hr⟩ : ∃ r, (aOkB d l f s o n x c k a t c' k' a' t' && aOkB d l f s o n x b0 b1 b2 b3 e0 e1 e2 e3) = r := ⟨_, rfl⟩
  have q1 := fun W => withGroups_spec d l f s o n x c k a t c' k' a' t' b0 b1 b2 b3 e0 e1 e2 e3 W r hr
  have q2 := fun W (hb : Below w.heap.size w W) => withGroups_impl d l f s o n x c k a t c' k' a' t' b0 b1 b2 b3 e0 e1 e2 e3 W r hr (hA.below hb)
  cases r
  · exact ⟨0, 0, 0, 0, 0, 0, 0, 0, 0, 0, 0, 0, 0, 0, 0, false, fun W => q1 W, fun W hb => q2 W hb⟩
  · exact ⟨d, l, f, s, o, n, x, b0, b1, b2, b3, e0, e1, e2, e3, true, fun W => q1 W, fun W hb => q2 W hb⟩
end Go.Proofs.YtapjiffililmgaaDoor
