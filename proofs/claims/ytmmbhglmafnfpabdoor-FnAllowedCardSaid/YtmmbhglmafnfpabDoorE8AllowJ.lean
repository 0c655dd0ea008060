/- Contract: AllowedAt of both sides answers alike. -/
import Derived.Test.YtmmbhglmafnfpabDoorE8AllowS
import Derived.Test.YtmmbhglmafnfpabDoorKE
namespace Go.Proofs.YtmmbhglmafnfpabDoor
open Go.RowKit

theorem brk_one {y x : Int} (hy : 1 ≤ y ∧ y ≤ 9) (hx : 1 ≤ x ∧ x ≤ 9) : brkL y [x] = clashB y x := by simp [brkL, clA_in hy hx]
theorem allow_both (d l f s o n x c k a t c' k' a' t' pl : Int) (w : World) (hA : AttsLie w) : ∃ (X : List Int) (ok : Bool), X.length ≤ 1000 ∧ (∀ W, Calls Tryd.prog 9 #[.agg #[.int .i64 d, .int .i64 l, .int .i64 f, .int .i64 s, .int .i64 o, .int .i64 n, .int .i64 x, .int .i64 c, .int .i64 k, .int .i64 a, .int .i64 t, .int .i64 c', .int .i64 k', .int .i64 a', .int .i64 t'], .int .i64 pl] W (Ans W X ok)) ∧ (∀ W, Below w.heap.size w W → Calls Tryd.prog 8 #[.agg #[.int .i64 d, .int .i64 l, .int .i64 f, .int .i64 s, .int .i64 o, .int .i64 n, .int .i64 x, .int .i64 c, .int .i64 k, .int .i64 a, .int .i64 t, .int .i64 c', .int .i64 k', .int .i64 a', .int .i64 t'], .int .i64 pl] W (Ans W X ok)) := by
  rcases Bool.eq_false_or_eq_true (aOkB d l f s o n x c k a t c' k' a' t') with h | h
  · obtain ⟨hF, hG, hO⟩ := aOk_out h
    by_cases hp : 1 ≤ pl ∧ pl ≤ 3
    · rcases (show pl = 1 ∨ pl = 2 ∨ pl = 3 by omega) with rfl | rfl | rfl
      · rcases hO with ⟨ho, _, hx, _⟩ | ⟨ho, _, hx, _⟩
        · exact ⟨[], false, by simp, fun W => allowS_none1o0 d l f s o n x c k a t c' k' a' t' W h (by rw [beq_iff_eq]; exact ho), fun W hb => allow_no d l f s o n x c k a t c' k' a' t' 1 0 (by omega) rfl W h (hA.below hb) hx⟩
        · refine ⟨alL (fun y => onL y (tincL d f s)) 9, true, Nat.le_trans (alL_len _ _) (by omega), fun W => allowS_there1 d l f s o n x c k a t c' k' a' t' W h (by rw [beq_eq_false_iff_ne]; omega), fun W hb => ?_⟩
          rw [alL_eq (p := fun y => onL y (tincL d f s)) (q := pk8 d f s x 0) 9 (fun y hy => (brk_on hF ⟨hy.1, by omega⟩).symm)]
          exact allow_yes d l f s o n x c k a t c' k' a' t' 1 0 (by omega) rfl W h hF (hA.below hb) (show x ≠ 0 by omega)
      · rcases hO with ⟨ho, _, hx, hg⟩ | ⟨ho, _, hx, hg | ⟨hg, hk⟩⟩
        · obtain ⟨_, _, _, ht⟩ := gNo_zero4 hg
          exact ⟨[], false, by simp, fun W => allowS_none2o0 d l f s o n x c k a t c' k' a' t' W h (by rw [beq_iff_eq]; exact ho), fun W hb => allow_no d l f s o n x c k a t c' k' a' t' 2 1 (by omega) rfl W h (hA.below hb) ht⟩
        · obtain ⟨_, _, _, ht⟩ := gNo_zero4 hg
          exact ⟨[], false, by simp, fun W => allowS_none2g d l f s o n x c k a t c' k' a' t' W h (by rw [beq_eq_false_iff_ne]; omega) hg, fun W hb => allow_no d l f s o n x c k a t c' k' a' t' 2 1 (by omega) rfl W h (hA.below hb) ht⟩
        · refine ⟨alL (fun y => clashB y x) 9, true, Nat.le_trans (alL_len _ _) (by omega), fun W => allowS_there2 d l f s o n x c k a t c' k' a' t' W h (by rw [beq_eq_false_iff_ne]; omega) hg, fun W hb => ?_⟩
          rw [alL_eq (p := fun y => clashB y x) (q := pk8 d f s x 1) 9 (fun y hy => (brk_one ⟨hy.1, by omega⟩ hx).symm)]
          have ht := (gOk_out hk).2.2.1
          exact allow_yes d l f s o n x c k a t c' k' a' t' 2 1 (by omega) rfl W h hF (hA.below hb) (show t ≠ 0 by omega)
      · rcases hG with hg | ⟨hg, hk⟩
        · obtain ⟨_, _, _, ht⟩ := gNo_zero4 hg
          exact ⟨[], false, by simp, fun W => allowS_none3g d l f s o n x c k a t c' k' a' t' W h hg, fun W hb => allow_no d l f s o n x c k a t c' k' a' t' 3 2 (by omega) rfl W h (hA.below hb) ht⟩
        · refine ⟨alL (fun y => onL y (tincL d f s)) 9, true, Nat.le_trans (alL_len _ _) (by omega), fun W => allowS_there3 d l f s o n x c k a t c' k' a' t' W h hg, fun W hb => ?_⟩
          rw [alL_eq (p := fun y => onL y (tincL d f s)) (q := pk8 d f s x 2) 9 (fun y hy => (brk_on hF ⟨hy.1, by omega⟩).symm)]
          have ht := (gOk_out hk).2.2.1
          exact allow_yes d l f s o n x c k a t c' k' a' t' 3 2 (by omega) rfl W h hF (hA.below hb) (show t' ≠ 0 by omega)
    · exact ⟨[], false, by simp, fun W => allowS_place d l f s o n x c k a t c' k' a' t' pl W h (decide_eq_false hp), fun W hb => allow_place d l f s o n x c k a t c' k' a' t' pl W h (decide_eq_false hp) (hA.below hb)⟩
  · exact ⟨[], false, by simp, fun W => allowS_bad d l f s o n x c k a t c' k' a' t' pl W h, fun W hb => allow_bad d l f s o n x c k a t c' k' a' t' pl W h (hA.below hb)⟩
end Go.Proofs.YtmmbhglmafnfpabDoor
