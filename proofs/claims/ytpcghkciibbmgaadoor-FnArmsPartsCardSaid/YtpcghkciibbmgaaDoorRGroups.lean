/- Contracts: the program's groups: validity and beasts. -/
import Derived.Test.YtpcghkciibbmgaaDoorG4Tabs
import Derived.Test.YtpcghkciibbmgaaDoorCset
namespace Go.Proofs.YtpcghkciibbmgaaDoor
open Go.RowKit

theorem isCount_any (x : Int) (w : World) (p : Bool) (hp : decide (1 ≤ x ∧ x ≤ 6) = p) :
    Calls Tryd.prog 59 #[.int .i64 x] w fun e w' => e = .returned (.bool p) ∧ w = w' := by
  obtain ⟨p1, e1⟩ : ∃ p, decide (1 ≤ x) = p := ⟨_, rfl⟩
  obtain ⟨p2, e2⟩ : ∃ p, decide (x ≤ 6) = p := ⟨_, rfl⟩
  have hR : (p1 && p2) = p := by rw [← hp, ← e1, ← e2]; by_cases h : 1 ≤ x <;> by_cases h' : x ≤ 6 <;> simp [h, h']
  clear hp
  subst hR
  cases p1
  all_goals
    go_enter Tryd.func59, Tryd.ntmps59
    go_wp2_with fail
    go_ret
    exact ⟨by first | rfl | simp, rfl⟩
theorem isKind_any (x : Int) (w : World) (p : Bool) (hp : decide (1 ≤ x ∧ x ≤ 8) = p) :
    Calls Tryd.prog 60 #[.int .i64 x] w fun e w' => e = .returned (.bool p) ∧ w = w' := by
  obtain ⟨p1, e1⟩ : ∃ p, decide (1 ≤ x) = p := ⟨_, rfl⟩
  obtain ⟨p2, e2⟩ : ∃ p, decide (x ≤ 8) = p := ⟨_, rfl⟩
  have hR : (p1 && p2) = p := by rw [← hp, ← e1, ← e2]; by_cases h : 1 ≤ x <;> by_cases h' : x ≤ 8 <;> simp [h, h']
  clear hp
  subst hR
  cases p1
  all_goals
    go_enter Tryd.func60, Tryd.ntmps60
    go_wp2_with fail
    go_ret
    exact ⟨by first | rfl | simp, rfl⟩
theorem isT_any (x : Int) (w : World) (p : Bool) (hp : decide (1 ≤ x ∧ x ≤ 9) = p) :
    Calls Tryd.prog 27 #[.int .i64 x] w fun e w' => e = .returned (.bool p) ∧ w = w' := by
  cases p
  · have := of_decide_eq_false hp
    exact isT_no x w (by omega)
  · have := of_decide_eq_true hp
    exact isT_yes x w this.1 this.2
theorem attsL_two {j : Nat} (h : j < 3) : (attsL ((j : Int) + 1)).length = 2 := by
  rcases (show j = 0 ∨ j = 1 ∨ j = 2 by omega) with rfl | rfl | rfl <;> rfl
theorem attsL_nil {j : Nat} (h : 3 ≤ j) : (attsL ((j : Int) + 1)).length = 0 := by rw [attsL_x (by omega)]; rfl

set_option maxHeartbeats 2000000 in
theorem validGroup_early (c k a t : Int) (w : World) (p1 p2 p3 : Bool) (h1 : decide (1 ≤ c ∧ c ≤ 6) = p1) (h2 : decide (1 ≤ k ∧ k ≤ 8) = p2) (h3 : decide (1 ≤ t ∧ t ≤ 9) = p3) (hn : (p1 && (p2 && p3)) = false) :
    Calls Tryd.prog 50 #[.agg #[.int .i64 c, .int .i64 k, .int .i64 a, .int .i64 t]] w fun e w' => e = .returned (.bool false) ∧ Below w.heap.size w w' := by
  have c1 := fun W => isCount_any c W p1 h1
  have c2 := fun W => isKind_any k W p2 h2
  have c3 := fun W => isT_any t W p3 h3
  clear h1 h2 h3
  cases p1
  · go_enter Tryd.func50, Tryd.ntmps50
    go_wp2_with (go_at_call 59; refine (c1 _).mono ?_; rintro e w' ⟨rfl, rfl⟩)
    go_ret
    exact ⟨rfl, (Below.refl _ _).alloc (Nat.le_refl _) _⟩
  · cases p2
    · go_enter Tryd.func50, Tryd.ntmps50
      go_wp2_with (first | (go_at_call 59; refine (c1 _).mono ?_; rintro e w' ⟨rfl, rfl⟩) | (go_at_call 60; refine (c2 _).mono ?_; rintro e w' ⟨rfl, rfl⟩))
      go_ret
      exact ⟨rfl, (Below.refl _ _).alloc (Nat.le_refl _) _⟩
    · cases p3
      · go_enter Tryd.func50, Tryd.ntmps50
        go_wp2_with (first | (go_at_call 59; refine (c1 _).mono ?_; rintro e w' ⟨rfl, rfl⟩) | (go_at_call 60; refine (c2 _).mono ?_; rintro e w' ⟨rfl, rfl⟩) | (go_at_call 27; refine (c3 _).mono ?_; rintro e w' ⟨rfl, rfl⟩))
        go_ret
        exact ⟨rfl, (Below.refl _ _).alloc (Nat.le_refl _) _⟩
      · cases hn
set_option maxHeartbeats 2000000 in
theorem validGroup_late (c : Int) (j : Nat) (a t : Int) (w : World) (n : Nat) (r : Bool) (h1 : 1 ≤ c ∧ c ≤ 6) (h2 : j < 8) (h3 : 1 ≤ t ∧ t ≤ 9) (hn : (n = 2 ∧ j < 3 ∧ decide (1 ≤ a ∧ a ≤ 2) = r) ∨ (n = 0 ∧ (a == 0) = r))
    (hc : ∃ x, w.cell? ⟨0, j, none⟩ = some (.slice x n n)) :
    Calls Tryd.prog 50 #[.agg #[.int .i64 c, .int .i64 ((j : Int) + 1), .int .i64 a, .int .i64 t]] w fun e w' => e = .returned (.bool r) ∧ Below w.heap.size w w' := by
  have c1 := fun W => isCount_any c W true (decide_eq_true h1)
  have c2 := fun W => isKind_any ((j : Int) + 1) W true (decide_eq_true (by omega))
  have c3 := fun W => isT_any t W true (decide_eq_true h3)
  obtain ⟨x, hc⟩ := hc
  have hc' : (w.alloc (.cells #[.int .i64 c, .int .i64 ((j : Int) + 1), .int .i64 a, .int .i64 t] 27 (0, 0))).cell? ⟨0, j, none⟩ = some (.slice x n n) := by
    rw [World.cell?_alloc_lt _ _ _ (World.block_lt_of_cell? w _ hc)]; exact hc
  clear h1 h3 hc
  rcases hn with ⟨rfl, _, hr⟩ | ⟨rfl, hr⟩
  · obtain ⟨q1, e1⟩ : ∃ p, decide (1 ≤ a) = p := ⟨_, rfl⟩
    obtain ⟨q2, e2⟩ : ∃ p, decide (a ≤ 2) = p := ⟨_, rfl⟩
    have hR : (q1 && q2) = r := by rw [← hr, ← e1, ← e2]; by_cases h : 1 ≤ a <;> by_cases h' : a ≤ 2 <;> simp [h, h']
    clear hr
    subst hR
    cases q1
    all_goals
      go_enter Tryd.func50, Tryd.ntmps50
      go_wp2_with (first | (go_at_call 59; refine (c1 _).mono ?_; rintro e w' ⟨rfl, rfl⟩) | (go_at_call 60; refine (c2 _).mono ?_; rintro e w' ⟨rfl, rfl⟩) | (go_at_call 27; refine (c3 _).mono ?_; rintro e w' ⟨rfl, rfl⟩))
      go_ret
      exact ⟨by first | rfl | simp, (Below.refl _ _).alloc (Nat.le_refl _) _⟩
  · go_enter Tryd.func50, Tryd.ntmps50
    go_wp2_with (first | (go_at_call 59; refine (c1 _).mono ?_; rintro e w' ⟨rfl, rfl⟩) | (go_at_call 60; refine (c2 _).mono ?_; rintro e w' ⟨rfl, rfl⟩) | (go_at_call 27; refine (c3 _).mono ?_; rintro e w' ⟨rfl, rfl⟩))
    go_ret
    exact ⟨by first | rfl | (rw [hr]), (Below.refl _ _).alloc (Nat.le_refl _) _⟩
theorem validGroup_impl (c k a t : Int) (w : World) (r : Bool) (hr : gOkB c k a t = r) (hA : AttsLie w) :
    Calls Tryd.prog 50 #[.agg #[.int .i64 c, .int .i64 k, .int .i64 a, .int .i64 t]] w fun e w' => e = .returned (.bool r) ∧ Below w.heap.size w w' := by
  by_cases h : (decide (1 ≤ c ∧ c ≤ 6) && (decide (1 ≤ k ∧ k ≤ 8) && decide (1 ≤ t ∧ t ≤ 9))) = true
  · simp only [Bool.and_eq_true, decide_eq_true_eq] at h
    obtain ⟨h1, h2, h3⟩ := h
    obtain ⟨j, rfl⟩ : ∃ j : Nat, k = (j : Int) + 1 := ⟨(k - 1).toNat, by omega⟩
    obtain ⟨x, hc, _⟩ := hA j (by omega)
    unfold gOkB at hr
    rw [decide_eq_true h1, decide_eq_true h2, decide_eq_true h3, Bool.true_and, Bool.true_and, Bool.true_and] at hr
    by_cases h4 : j < 3
    · rw [if_pos (by omega)] at hr
      rw [attsL_two h4] at hc
      exact validGroup_late c j a t w 2 r h1 (by omega) h3 (.inl ⟨rfl, h4, hr⟩) ⟨x, hc⟩
    · rw [if_neg (by omega)] at hr
      rw [attsL_nil (by omega)] at hc
      exact validGroup_late c j a t w 0 r h1 (by omega) h3 (.inr ⟨rfl, hr⟩) ⟨x, hc⟩
  · have hr0 : r = false := by
      rw [← hr]
      unfold gOkB
      cases h1 : decide (1 ≤ c ∧ c ≤ 6) <;> cases h2 : decide (1 ≤ k ∧ k ≤ 8) <;> cases h3 : decide (1 ≤ t ∧ t ≤ 9) <;> simp_all
    rw [hr0]
    exact validGroup_early c k a t w _ _ _ rfl rfl rfl (by simpa using h)
end Go.Proofs.YtpcghkciibbmgaaDoor
