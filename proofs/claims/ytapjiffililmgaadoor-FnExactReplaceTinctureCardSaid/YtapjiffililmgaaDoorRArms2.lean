/- Contracts: ReplaceTincture of the program and of the model: the same answer. -/
import Derived.Test.YtapjiffililmgaaDoorRRepl
import Derived.Test.YtapjiffililmgaaDoorArmsR
namespace Go.Proofs.YtapjiffililmgaaDoor
open Go.RowKit

theorem replace_both (d l f s o n x c k a t c' k' a' t' old y : Int) (w : World) (hA : AttsLie w) :
    ∃ (u0 u1 u2 u3 u4 u5 u6 u7 u8 u9 u10 u11 u12 u13 u14 : Int) (ok : Bool), (∀ W, Calls Tryd.prog 18 #[.agg #[.int .i64 d, .int .i64 l, .int .i64 f, .int .i64 s, .int .i64 o, .int .i64 n, .int .i64 x, .int .i64 c, .int .i64 k, .int .i64 a, .int .i64 t, .int .i64 c', .int .i64 k', .int .i64 a', .int .i64 t'], .int .i64 old, .int .i64 y] W (AnsA W u0 u1 u2 u3 u4 u5 u6 u7 u8 u9 u10 u11 u12 u13 u14 ok)) ∧ (∀ W, Below w.heap.size w W → Calls Tryd.prog 17 #[.agg #[.int .i64 d, .int .i64 l, .int .i64 f, .int .i64 s, .int .i64 o, .int .i64 n, .int .i64 x, .int .i64 c, .int .i64 k, .int .i64 a, .int .i64 t, .int .i64 c', .int .i64 k', .int .i64 a', .int .i64 t'], .int .i64 old, .int .i64 y] W (AnsA W u0 u1 u2 u3 u4 u5 u6 u7 u8 u9 u10 u11 u12 u13 u14 ok)) := by
  by_cases h2 : 1 ≤ old ∧ old ≤ 9
  · by_cases h4 : 1 ≤ y ∧ y ≤ 9
    · rcases Bool.eq_false_or_eq_true (aOkB d l f s o n x c k a t c' k' a' t') with h1 | h1
      · rcases Bool.eq_false_or_eq_true (aOkB d l (turn1 old y f) (turn1 old y s) o n (turn1 old y x) c k a (turn1 old y t) c' k' a' (turn1 old y t')) with hg | hg
        · exact ⟨d, l, (turn1 old y f), (turn1 old y s), o, n, (turn1 old y x), c, k, a, (turn1 old y t), c', k', a', (turn1 old y t'), true, fun W => replace_3 d l f s o n x c k a t c' k' a' t' old y W h2.1 h2.2 h4.1 h4.2 _ _ _ _ _ rfl rfl rfl rfl rfl (by show (aOkB d l f s o n x c k a t c' k' a' t' && aOkB d l (turn1 old y f) (turn1 old y s) o n (turn1 old y x) c k a (turn1 old y t) c' k' a' (turn1 old y t')) = true; rw [h1, hg]; rfl), fun W hb => replaceI_5 d l f s o n x c k a t c' k' a' t' old y W h1 h2.1 h2.2 h4.1 h4.2 _ _ _ _ _ rfl rfl rfl rfl rfl hg (hA.below hb)⟩
        · exact ⟨0, 0, 0, 0, 0, 0, 0, 0, 0, 0, 0, 0, 0, 0, 0, false, fun W => replace_4 d l f s o n x c k a t c' k' a' t' old y W h2.1 h2.2 h4.1 h4.2 _ _ _ _ _ rfl rfl rfl rfl rfl (by show (aOkB d l f s o n x c k a t c' k' a' t' && aOkB d l (turn1 old y f) (turn1 old y s) o n (turn1 old y x) c k a (turn1 old y t) c' k' a' (turn1 old y t')) = false; rw [h1, hg]; rfl), fun W hb => replaceI_4 d l f s o n x c k a t c' k' a' t' old y W h1 h2.1 h2.2 h4.1 h4.2 _ _ _ _ _ rfl rfl rfl rfl rfl hg (hA.below hb)⟩
      · exact ⟨0, 0, 0, 0, 0, 0, 0, 0, 0, 0, 0, 0, 0, 0, 0, false, fun W => replace_4 d l f s o n x c k a t c' k' a' t' old y W h2.1 h2.2 h4.1 h4.2 _ _ _ _ _ rfl rfl rfl rfl rfl (by show (aOkB d l f s o n x c k a t c' k' a' t' && aOkB d l (turn1 old y f) (turn1 old y s) o n (turn1 old y x) c k a (turn1 old y t) c' k' a' (turn1 old y t')) = false; rw [h1]; rfl), fun W hb => replaceI_1 d l f s o n x c k a t c' k' a' t' old y W h1 (hA.below hb)⟩
    · have h4' : y < 1 ∨ 9 < y := by omega
      rcases Bool.eq_false_or_eq_true (aOkB d l f s o n x c k a t c' k' a' t') with h1 | h1
      · exact ⟨0, 0, 0, 0, 0, 0, 0, 0, 0, 0, 0, 0, 0, 0, 0, false, fun W => replace_2 d l f s o n x c k a t c' k' a' t' old y W h2.1 h2.2 h4', fun W hb => replaceI_3 d l f s o n x c k a t c' k' a' t' old y W h1 h2.1 h2.2 h4' (hA.below hb)⟩
      · exact ⟨0, 0, 0, 0, 0, 0, 0, 0, 0, 0, 0, 0, 0, 0, 0, false, fun W => replace_2 d l f s o n x c k a t c' k' a' t' old y W h2.1 h2.2 h4', fun W hb => replaceI_1 d l f s o n x c k a t c' k' a' t' old y W h1 (hA.below hb)⟩
  · have h2' : old < 1 ∨ 9 < old := by omega
    rcases Bool.eq_false_or_eq_true (aOkB d l f s o n x c k a t c' k' a' t') with h1 | h1
    · exact ⟨0, 0, 0, 0, 0, 0, 0, 0, 0, 0, 0, 0, 0, 0, 0, false, fun W => replace_1 d l f s o n x c k a t c' k' a' t' old y W h2', fun W hb => replaceI_2 d l f s o n x c k a t c' k' a' t' old y W h1 h2' (hA.below hb)⟩
    · exact ⟨0, 0, 0, 0, 0, 0, 0, 0, 0, 0, 0, 0, 0, 0, 0, false, fun W => replace_1 d l f s o n x c k a t c' k' a' t' old y W h2', fun W hb => replaceI_1 d l f s o n x c k a t c' k' a' t' old y W h1 (hA.below hb)⟩
end Go.Proofs.YtapjiffililmgaaDoor
