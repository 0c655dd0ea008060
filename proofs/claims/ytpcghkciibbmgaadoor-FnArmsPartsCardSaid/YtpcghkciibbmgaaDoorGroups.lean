/- Contracts: the model's groups: validity, beasts, differences, sums, rows; the laws' toGroup and eqGroup. -/
import Derived.Test.YtpcghkciibbmgaaDoorFields2
namespace Go.Proofs.YtpcghkciibbmgaaDoor
open Go.RowKit

/-- A group's numbers are valid; is it the zero group? -/
def gOkB (c k a t : Int) : Bool := decide (1 ≤ c ∧ c ≤ 6) && (decide (1 ≤ k ∧ k ≤ 8) && (decide (1 ≤ t ∧ t ≤ 9) && (if k ≤ 3 then decide (1 ≤ a ∧ a ≤ 2) else a == 0)))
def gNoB (c k a t : Int) : Bool := decide (c = 0 ∧ k = 0 ∧ a = 0 ∧ t = 0)
theorem gOk_out {c k a t : Int} (h : gOkB c k a t = true) : (1 ≤ c ∧ c ≤ 6) ∧ (1 ≤ k ∧ k ≤ 8) ∧ (1 ≤ t ∧ t ≤ 9) ∧ ((k ≤ 3 ∧ 1 ≤ a ∧ a ≤ 2) ∨ (3 < k ∧ a = 0)) := by
  unfold gOkB at h
  simp only [Bool.and_eq_true, decide_eq_true_eq] at h
  refine ⟨h.1, h.2.1, h.2.2.1, ?_⟩
  have h4 := h.2.2.2
  split at h4
  · exact .inl ⟨by omega, by simpa using h4⟩
  · exact .inr ⟨by omega, by simpa using h4⟩
theorem gOk_in {c k a t : Int} (h : (1 ≤ c ∧ c ≤ 6) ∧ (1 ≤ k ∧ k ≤ 8) ∧ (1 ≤ t ∧ t ≤ 9) ∧ ((k ≤ 3 ∧ 1 ≤ a ∧ a ≤ 2) ∨ (3 < k ∧ a = 0))) : gOkB c k a t = true := by
  unfold gOkB
  simp only [Bool.and_eq_true, decide_eq_true_eq]
  refine ⟨h.1, h.2.1, h.2.2.1, ?_⟩
  rcases h.2.2.2 with ⟨h0, h1⟩ | ⟨h0, h1⟩
  · rw [if_pos h0]; simpa using h1
  · rw [if_neg (by omega)]; simpa using h1
theorem gOk_none (c k a t : Int) (h : gNoB c k a t = true) : gOkB c k a t = false := by
  unfold gNoB at h
  simp only [decide_eq_true_eq] at h
  obtain ⟨rfl, rfl, rfl, rfl⟩ := h
  rfl
theorem l1In_any (x a b : Int) (w : World) (p : Bool) (hp : decide (a ≤ x ∧ x ≤ b) = p) :
    Calls Tryd.prog 44 #[.int .i64 x, .int .i64 a, .int .i64 b] w fun e w' => e = .returned (.bool p) ∧ w = w' := by
  cases p
  · have := of_decide_eq_false hp
    exact l1In_no x a b w (by omega)
  · have := of_decide_eq_true hp
    exact l1In_yes x a b w this.1 this.2
theorem l2Good_any (x : Int) (w : World) (p : Bool) (hp : decide (1 ≤ x ∧ x ≤ 9) = p) :
    Calls Tryd.prog 30 #[.int .i64 x] w fun e w' => e = .returned (.bool p) ∧ w = w' := by
  cases p
  · have := of_decide_eq_false hp
    exact l2Good_no x w (by omega)
  · have := of_decide_eq_true hp
    exact l2Good_yes x w this.1 this.2
theorem l4Kind_any (x : Int) (w : World) (p : Bool) (hp : decide (1 ≤ x ∧ x ≤ 8) = p) :
    Calls Tryd.prog 61 #[.int .i64 x] w fun e w' => e = .returned (.bool p) ∧ w = w' := by
  have c := fun W => l1In_any x 1 8 W p hp
  clear hp
  go_enter Tryd.func61, Tryd.ntmps61
  go_wp2_with fail
  refine (c _).mono ?_
  rintro e w' ⟨rfl, rfl⟩
  go_wp2_with fail
  go_ret
  exact ⟨rfl, rfl⟩
theorem l4Beast_any (x : Int) (w : World) (p : Bool) (hp : decide (x ≤ 3) = p) :
    Calls Tryd.prog 62 #[.int .i64 x] w fun e w' => e = .returned (.bool p) ∧ w = w' := by
  go_enter Tryd.func62, Tryd.ntmps62
  go_wp2_with fail
  go_ret
  exact ⟨by first | rfl | (rw [hp]) | simp [hp], rfl⟩
set_option maxHeartbeats 2000000 in
theorem l4Group_any (c k a t : Int) (w : World) (r : Bool) (hr : gOkB c k a t = r) :
    Calls Tryd.prog 53 #[.agg #[.int .i64 c, .int .i64 k, .int .i64 a, .int .i64 t]] w fun e w' => e = .returned (.bool r) ∧ Below w.heap.size w w' := by
  obtain ⟨p1, h1⟩ : ∃ p, decide (1 ≤ c ∧ c ≤ 6) = p := ⟨_, rfl⟩
  obtain ⟨p2, h2⟩ : ∃ p, decide (1 ≤ k ∧ k ≤ 8) = p := ⟨_, rfl⟩
  obtain ⟨p3, h3⟩ : ∃ p, decide (1 ≤ t ∧ t ≤ 9) = p := ⟨_, rfl⟩
  obtain ⟨p4, h4⟩ : ∃ p, decide (k ≤ 3) = p := ⟨_, rfl⟩
  obtain ⟨p5, h5⟩ : ∃ p, decide (1 ≤ a ∧ a ≤ 2) = p := ⟨_, rfl⟩
  obtain ⟨p6, h6⟩ : ∃ p, (a == 0) = p := ⟨_, rfl⟩
  have c1 := fun W => l1In_any c 1 6 W p1 h1
  have c2 := fun W => l4Kind_any k W p2 h2
  have c3 := fun W => l2Good_any t W p3 h3
  have c4 := fun W => l4Beast_any k W p4 h4
  have c5 := fun W => l1In_any a 1 2 W p5 h5
  have hR : (p1 && (p2 && (p3 && (if p4 = true then p5 else p6)))) = r := by
    rw [← hr, ← h1, ← h2, ← h3, ← h4, ← h5, ← h6]
    unfold gOkB
    by_cases h : k ≤ 3 <;> simp [h]
  clear hr h1 h2 h3 h4 h5
  go_enter Tryd.func53, Tryd.ntmps53
  go_wp2_with (first | (go_at_call 44; (with_reducible refine (c1 _).mono ?_); rintro e w' ⟨rfl, rfl⟩) | (go_at_call 44; (with_reducible refine (c5 _).mono ?_); rintro e w' ⟨rfl, rfl⟩) | (go_at_call 61; refine (c2 _).mono ?_; rintro e w' ⟨rfl, rfl⟩) | (go_at_call 30; refine (c3 _).mono ?_; rintro e w' ⟨rfl, rfl⟩) | (go_at_call 62; refine (c4 _).mono ?_; rintro e w' ⟨rfl, rfl⟩))
  all_goals
    go_ret
    refine ⟨?_, (Below.refl _ _).alloc (Nat.le_refl _) _⟩
    clear c1 c2 c3 c4 c5 h6
    subst hR
    cases p1 <;> cases p2 <;> cases p3 <;> cases p4 <;> cases p5 <;> cases p6 <;> first | rfl | contradiction | simp_all
set_option maxHeartbeats 1000000 in
theorem l4None_any (c k a t : Int) (w : World) (r : Bool) (hr : gNoB c k a t = r) :
    Calls Tryd.prog 52 #[.agg #[.int .i64 c, .int .i64 k, .int .i64 a, .int .i64 t]] w fun e w' => e = .returned (.bool r) ∧ Below w.heap.size w w' := by
  have HR := Lib.hid hr
  clear hr
  go_enter Tryd.func52, Tryd.ntmps52
  go_wp2_with fail
  all_goals
    go_ret
    refine ⟨?_, (Below.refl _ _).alloc (Nat.le_refl _) _⟩
    rw [← HR.out]
    unfold gNoB
    first
      | rfl
      | (simp only [*]; done)
      | (refine congrArg Ending.returned (congrArg Value.bool (Eq.symm ?_)); rw [decide_eq_true_iff]; exact ⟨by assumption, by assumption, by assumption, by assumption⟩)
      | (refine congrArg Ending.returned (congrArg Value.bool (Eq.symm ?_)); rw [decide_eq_false_iff_not]; rintro ⟨e1, e2, e3, e4⟩; contradiction)
def rowL (n : Int) : List Int := if n = 1 then [1] else if n = 2 then [1, 1] else if n = 3 then [2, 1] else if n = 4 then [2, 2] else if n = 5 then [2, 1, 2] else [3, 2, 1]
theorem rowL_len (n : Int) : (rowL n).length ≤ 1000 := by
  unfold rowL
  repeat' split
  all_goals simp
end Go.Proofs.YtpcghkciibbmgaaDoor
