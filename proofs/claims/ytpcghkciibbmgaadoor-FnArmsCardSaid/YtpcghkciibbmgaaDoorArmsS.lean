/- Contracts: the model's arms without their tinctures; a tincture turned. -/
import Derived.Test.YtpcghkciibbmgaaDoorArms5
namespace Go.Proofs.YtpcghkciibbmgaaDoor
open Go.RowKit

theorem l5Turn_any (y old x : Int) (w : World) :
    Calls Tryd.prog 49 #[.int .i64 y, .int .i64 old, .int .i64 x] w fun e w' => e = .returned (.int .i64 (if y = old then x else y)) ∧ w = w' := by
  by_cases h : y = old
  · have e1 : (y == old) = true := by rw [beq_iff_eq]; exact h
    rw [if_pos h]
    clear h
    go_enter Tryd.func49, Tryd.ntmps49
    go_wp2_with fail
    go_ret
    exact ⟨rfl, rfl⟩
  · have e1 : (y == old) = false := by rw [beq_eq_false_iff_ne]; exact h
    rw [if_neg h]
    clear h
    go_enter Tryd.func49, Tryd.ntmps49
    go_wp2_with fail
    go_ret
    exact ⟨rfl, rfl⟩
set_option maxRecDepth 100000 in
set_option maxHeartbeats 8000000 in
theorem l5Replace_any (d l f s o n x c k a t c' k' a' t' old y : Int) (w : World) :
    Calls Tryd.prog 32 #[.agg #[.int .i64 d, .int .i64 l, .int .i64 f, .int .i64 s, .int .i64 o, .int .i64 n, .int .i64 x, .int .i64 c, .int .i64 k, .int .i64 a, .int .i64 t, .int .i64 c', .int .i64 k', .int .i64 a', .int .i64 t'], .int .i64 old, .int .i64 y] w fun e w' => e = .returned (.agg #[.int .i64 d, .int .i64 l, .int .i64 (if f = old then y else f), .int .i64 (if s = old then y else s), .int .i64 o, .int .i64 n, .int .i64 (if x = old then y else x), .int .i64 c, .int .i64 k, .int .i64 a, .int .i64 (if t = old then y else t), .int .i64 c', .int .i64 k', .int .i64 a', .int .i64 (if t' = old then y else t')]) ∧ Below w.heap.size w w' := by
  have T1 := fun W => l5Turn_any f old y W
  have T2 := fun W => l5Turn_any s old y W
  have T3 := fun W => l5Turn_any x old y W
  have T4 := fun W => l5Turn_any t old y W
  have T5 := fun W => l5Turn_any t' old y W
  obtain ⟨r1, hr1⟩ : ∃ r, (if f = old then y else f) = r := ⟨_, rfl⟩
  rw [hr1] at T1 ⊢
  obtain ⟨r2, hr2⟩ : ∃ r, (if s = old then y else s) = r := ⟨_, rfl⟩
  rw [hr2] at T2 ⊢
  obtain ⟨r3, hr3⟩ : ∃ r, (if x = old then y else x) = r := ⟨_, rfl⟩
  rw [hr3] at T3 ⊢
  obtain ⟨r4, hr4⟩ : ∃ r, (if t = old then y else t) = r := ⟨_, rfl⟩
  rw [hr4] at T4 ⊢
  obtain ⟨r5, hr5⟩ : ∃ r, (if t' = old then y else t') = r := ⟨_, rfl⟩
  rw [hr5] at T5 ⊢
  clear hr1 hr2 hr3 hr4 hr5
  go_enter Tryd.func32, Tryd.ntmps32
  go_wp2_with fail
  refine (T1 _).mono ?_
  rintro e W1 ⟨rfl, rfl⟩
  go_wp2_with fail
  refine (T2 _).mono ?_
  rintro e W2 ⟨rfl, rfl⟩
  go_wp2_with fail
  refine (T3 _).mono ?_
  rintro e W3 ⟨rfl, rfl⟩
  go_wp2_with fail
  refine (T4 _).mono ?_
  rintro e W4 ⟨rfl, rfl⟩
  go_wp2_with fail
  refine (T5 _).mono ?_
  rintro e W5 ⟨rfl, rfl⟩
  go_wp2_with fail
  exact bodyPost_ret (v := .agg #[.int .i64 d, .int .i64 l, .int .i64 r1, .int .i64 r2, .int .i64 o, .int .i64 n, .int .i64 r3, .int .i64 c, .int .i64 k, .int .i64 a, .int .i64 r4, .int .i64 c', .int .i64 k', .int .i64 a', .int .i64 r5]) (by simp [results, Tryd.results32, go_sem]) rfl ⟨rfl, ((Below.refl _ _).alloc (Nat.le_refl _) _).alloc (by simp) _⟩
end Go.Proofs.YtpcghkciibbmgaaDoor
