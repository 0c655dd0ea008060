/- What FnAllowed asks of the charges around: a tincture is allowed there exactly if it gives no finding there. -/
import Derived.Test.YtmmbhglmafnfpabDoorE8AllowJ
import Derived.Test.YtmmbhglmafnfpabDoorE8Spec
namespace Go.Proofs.YtmmbhglmafnfpabDoor
open Go.RowKit

theorem alL_has (p : Int → Bool) {y : Int} (hy : 1 ≤ y ∧ y ≤ 9) : (alL p 9).contains y = !p y := by
  have hm : y ∈ (List.range 9).map (fun i : Nat => ((i : Int) + 1)) := List.mem_map.2 ⟨(y - 1).toNat, List.mem_range.2 (by omega), by omega⟩
  rcases hp : p y with _ | _
  · rw [Bool.not_false, List.contains_iff_mem]
    exact List.mem_filter.2 ⟨hm, by simp [hp]⟩
  · rw [Bool.not_true, ← Bool.not_eq_true, List.contains_iff_mem]
    intro h
    have := (List.mem_filter.1 h).2
    simp [hp] at this
theorem FA_around (d f s x t y : Int) : (FA d f s x t y).any (fun F => F.p == 3) = bk8 d f s x t y 2 := by
  unfold FA
  simp only [FL]
  rcases bk8 d f s x t y 0 with _ | _ <;> rcases bk8 d f s x t y 1 with _ | _ <;> rcases bk8 d f s x t y 2 with _ | _ <;> simp
theorem around_ok {d l f s o n x c k a t c' k' a' t' y : Int} (h : aOkB d l f s o n x c k a t c' k' a' t' = true) (hg : gNoB c' k' a' t' = false) (hy : 1 ≤ y ∧ y ≤ 9) :
    aOkB d l f s o n x c k a t c' k' a' y = true ∧ (FA d f s x t y).any (fun F => F.p == 3) = onL y (tincL d f s) := by
  have hF := (aOk_out h).1
  refine ⟨?_, by rw [FA_around]; exact brk_on hF hy⟩
  have hk : gOkB c' k' a' t' = true := by
    rcases (aOk_out h).2.1 with h1 | h1
    · rw [hg] at h1; cases h1
    · exact h1.2
  have hk2 : gOkB c' k' a' y = true := by
    have ey : decide (1 ≤ y ∧ y ≤ 9) = true := decide_eq_true hy
    unfold gOkB at hk ⊢
    simp only [Bool.and_eq_true] at hk
    rw [hk.1, hk.2.1, ey, hk.2.2.2]; rfl
  unfold aOkB at h ⊢
  simp only [Bool.and_eq_true] at h
  rw [h.1, h.2.1, hk2, h.2.2.2]; simp
theorem allow_both3 (d l f s o n x c k a t c' k' a' t' pl : Int) (w : World) (hA : AttsLie w) : ∃ (X : List Int) (ok : Bool), X.length ≤ 1000 ∧ (∀ W, Calls Tryd.prog 9 #[.agg #[.int .i64 d, .int .i64 l, .int .i64 f, .int .i64 s, .int .i64 o, .int .i64 n, .int .i64 x, .int .i64 c, .int .i64 k, .int .i64 a, .int .i64 t, .int .i64 c', .int .i64 k', .int .i64 a', .int .i64 t'], .int .i64 pl] W (Ans W X ok)) ∧ (∀ W, Below w.heap.size w W → Calls Tryd.prog 8 #[.agg #[.int .i64 d, .int .i64 l, .int .i64 f, .int .i64 s, .int .i64 o, .int .i64 n, .int .i64 x, .int .i64 c, .int .i64 k, .int .i64 a, .int .i64 t, .int .i64 c', .int .i64 k', .int .i64 a', .int .i64 t'], .int .i64 pl] W (Ans W X ok)) ∧ (ok = true → pl = 3 → aOkB d l f s o n x c k a t c' k' a' t' = true ∧ gNoB c' k' a' t' = false ∧ ∀ y : Int, 1 ≤ y ∧ y ≤ 9 → X.contains y = !onL y (tincL d f s)) := by
  by_cases hp : pl = 3
  · subst hp
    rcases Bool.eq_false_or_eq_true (aOkB d l f s o n x c k a t c' k' a' t') with h | h
    · obtain ⟨hF, hG, hO⟩ := aOk_out h
      rcases hG with hg | ⟨hg, hk⟩
      · obtain ⟨_, _, _, ht⟩ := gNo_zero4 hg
        exact ⟨[], false, by simp, fun W => allowS_none3g d l f s o n x c k a t c' k' a' t' W h hg, fun W hb => allow_no d l f s o n x c k a t c' k' a' t' 3 2 (by omega) rfl W h (hA.below hb) ht, fun hf => by cases hf⟩
      · refine ⟨alL (fun y => onL y (tincL d f s)) 9, true, Nat.le_trans (alL_len _ _) (by omega), fun W => allowS_there3 d l f s o n x c k a t c' k' a' t' W h hg, fun W hb => ?_, fun _ _ => ⟨h, hg, fun y hy => alL_has _ hy⟩⟩
        rw [alL_eq (p := fun y => onL y (tincL d f s)) (q := pk8 d f s x 2) 9 (fun y hy => (brk_on hF ⟨hy.1, by omega⟩).symm)]
        have ht := (gOk_out hk).2.2.1
        exact allow_yes d l f s o n x c k a t c' k' a' t' 3 2 (by omega) rfl W h hF (hA.below hb) (show t' ≠ 0 by omega)
    · exact ⟨[], false, by simp, fun W => allowS_bad d l f s o n x c k a t c' k' a' t' 3 W h, fun W hb => allow_bad d l f s o n x c k a t c' k' a' t' 3 W h (hA.below hb), fun hf => by cases hf⟩
  · obtain ⟨X, ok, h1, h2, h3⟩ := allow_both d l f s o n x c k a t c' k' a' t' pl w hA
    exact ⟨X, ok, h1, h2, h3, fun _ e => absurd e hp⟩
end Go.Proofs.YtmmbhglmafnfpabDoor
