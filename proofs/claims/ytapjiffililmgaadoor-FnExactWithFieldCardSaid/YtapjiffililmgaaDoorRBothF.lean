/- Contracts: WithField of the program and of the model: the same answer. -/
import Derived.Test.YtapjiffililmgaaDoorRWithF
import Derived.Test.YtapjiffililmgaaDoorArmsF
namespace Go.Proofs.YtapjiffililmgaaDoor
open Go.RowKit

theorem bothF_both (d l f s o n x c k a t c' k' a' t' f0 f1 f2 f3 : Int) (w : World) (hA : AttsLie w) :
    ∃ (m0 m1 m2 m3 m4 m5 m6 m7 m8 m9 m10 m11 m12 m13 m14 : Int) (ok : Bool), (∀ W, Calls Tryd.prog 26 #[.agg #[.int .i64 d, .int .i64 l, .int .i64 f, .int .i64 s, .int .i64 o, .int .i64 n, .int .i64 x, .int .i64 c, .int .i64 k, .int .i64 a, .int .i64 t, .int .i64 c', .int .i64 k', .int .i64 a', .int .i64 t'], .agg #[.int .i64 f0, .int .i64 f1, .int .i64 f2, .int .i64 f3]] W (AnsA W m0 m1 m2 m3 m4 m5 m6 m7 m8 m9 m10 m11 m12 m13 m14 ok)) ∧ (∀ W, Below w.heap.size w W → Calls Tryd.prog 25 #[.agg #[.int .i64 d, .int .i64 l, .int .i64 f, .int .i64 s, .int .i64 o, .int .i64 n, .int .i64 x, .int .i64 c, .int .i64 k, .int .i64 a, .int .i64 t, .int .i64 c', .int .i64 k', .int .i64 a', .int .i64 t'], .agg #[.int .i64 f0, .int .i64 f1, .int .i64 f2, .int .i64 f3]] W (AnsA W m0 m1 m2 m3 m4 m5 m6 m7 m8 m9 m10 m11 m12 m13 m14 ok)) := by
  obtain ⟨r, hr⟩ : ∃ r, (aOkB d l f s o n x c k a t c' k' a' t' && aOkB f0 f1 f2 f3 o n x c k a t c' k' a' t') = r := ⟨_, rfl⟩
  have q1 := fun W => withField_spec d l f s o n x c k a t c' k' a' t' f0 f1 f2 f3 W r hr
  have q2 := fun W (hb : Below w.heap.size w W) => withField_impl d l f s o n x c k a t c' k' a' t' f0 f1 f2 f3 W r hr (hA.below hb)
  cases r
  · exact ⟨0, 0, 0, 0, 0, 0, 0, 0, 0, 0, 0, 0, 0, 0, 0, false, fun W => q1 W, fun W hb => q2 W hb⟩
  · exact ⟨f0, f1, f2, f3, o, n, x, c, k, a, t, c', k', a', t', true, fun W => q1 W, fun W hb => q2 W hb⟩
end Go.Proofs.YtapjiffililmgaaDoor
