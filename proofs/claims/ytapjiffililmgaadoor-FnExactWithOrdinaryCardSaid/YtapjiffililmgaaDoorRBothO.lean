/- Contracts: WithOrdinary of the program and of the model: the same answer. -/
import Derived.Test.YtapjiffililmgaaDoorRWithO
import Derived.Test.YtapjiffililmgaaDoorArmsO
namespace Go.Proofs.YtapjiffililmgaaDoor
open Go.RowKit

theorem bothO_both (d l f s o n x c k a t c' k' a' t' o1 n1 x1 : Int) (w : World) (hA : AttsLie w) :
    ∃ (u0 u1 u2 u3 u4 u5 u6 u7 u8 u9 u10 u11 u12 u13 u14 : Int) (ok : Bool), (∀ W, Calls Tryd.prog 29 #[.agg #[.int .i64 d, .int .i64 l, .int .i64 f, .int .i64 s, .int .i64 o, .int .i64 n, .int .i64 x, .int .i64 c, .int .i64 k, .int .i64 a, .int .i64 t, .int .i64 c', .int .i64 k', .int .i64 a', .int .i64 t'], .int .i64 o1, .int .i64 n1, .int .i64 x1] W (AnsA W u0 u1 u2 u3 u4 u5 u6 u7 u8 u9 u10 u11 u12 u13 u14 ok)) ∧ (∀ W, Below w.heap.size w W → Calls Tryd.prog 28 #[.agg #[.int .i64 d, .int .i64 l, .int .i64 f, .int .i64 s, .int .i64 o, .int .i64 n, .int .i64 x, .int .i64 c, .int .i64 k, .int .i64 a, .int .i64 t, .int .i64 c', .int .i64 k', .int .i64 a', .int .i64 t'], .int .i64 o1, .int .i64 n1, .int .i64 x1] W (AnsA W u0 u1 u2 u3 u4 u5 u6 u7 u8 u9 u10 u11 u12 u13 u14 ok)) := by
  by_cases h0 : o1 = 0
  · subst h0
    obtain ⟨r, hr⟩ : ∃ r, (aOkB d l f s o n x c k a t c' k' a' t' && aOkB d l f s 0 n1 x1 0 0 0 0 c' k' a' t') = r := ⟨_, rfl⟩
    have q1 := fun W => withOrdinary_spec0 d l f s o n x c k a t c' k' a' t' n1 x1 W r hr
    have q2 := fun W (hb : Below w.heap.size w W) => withOrd0_impl d l f s o n x c k a t c' k' a' t' n1 x1 W r hr (hA.below hb)
    cases r
    · exact ⟨0, 0, 0, 0, 0, 0, 0, 0, 0, 0, 0, 0, 0, 0, 0, false, fun W => q1 W, fun W hb => q2 W hb⟩
    · exact ⟨d, l, f, s, 0, n1, x1, 0, 0, 0, 0, c', k', a', t', true, fun W => q1 W, fun W hb => q2 W hb⟩
  · obtain ⟨r, hr⟩ : ∃ r, (aOkB d l f s o n x c k a t c' k' a' t' && aOkB d l f s o1 n1 x1 c k a t c' k' a' t') = r := ⟨_, rfl⟩
    have q1 := fun W => withOrdinary_spec d l f s o n x c k a t c' k' a' t' o1 n1 x1 W h0 r hr
    have q2 := fun W (hb : Below w.heap.size w W) => withOrd_impl d l f s o n x c k a t c' k' a' t' o1 n1 x1 W h0 r hr (hA.below hb)
    cases r
    · exact ⟨0, 0, 0, 0, 0, 0, 0, 0, 0, 0, 0, 0, 0, 0, 0, false, fun W => q1 W, fun W hb => q2 W hb⟩
    · exact ⟨d, l, f, s, o1, n1, x1, c, k, a, t, c', k', a', t', true, fun W => q1 W, fun W hb => q2 W hb⟩
end Go.Proofs.YtapjiffililmgaaDoor
