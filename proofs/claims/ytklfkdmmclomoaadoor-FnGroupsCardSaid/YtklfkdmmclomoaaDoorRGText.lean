/- Contracts: the program's words of kinds and of counts, and its text of a group. -/
import Derived.Test.YtklfkdmmclomoaaDoorRGroups
import Derived.Test.YtklfkdmmclomoaaDoorG4Words
import Derived.Test.YtklfkdmmclomoaaDoorShelf
import Derived.Deep.AppendLies
import Derived.Maps.AppendAt
import Derived.StillTailTactics
namespace Go.Proofs.YtklfkdmmclomoaaDoor
open Go.RowKit

theorem kindN_size {j : Nat} (h : j < 8) : (kindN j).size ≤ 6 := by
  rcases (show j = 0 ∨ j = 1 ∨ j = 2 ∨ j = 3 ∨ j = 4 ∨ j = 5 ∨ j = 6 ∨ j = 7 by omega) with rfl | rfl | rfl | rfl | rfl | rfl | rfl | rfl <;> decide
theorem kindWord_impl' (j c : Nat) (w : World) (hj : j < 8) (hc1 : 1 ≤ c) (hc : c ≤ 6) (hK : KindsLie w) :
    Calls Tryd.prog 33 #[.int .i64 ((j : Int) + 1), .int .i64 (c : Int)] w fun e w' => e = .returned (.tuple #[.string (kwordN (j + 1) c), .bool true]) ∧ w = w' := by
  have c1 := fun W => isKind_any ((j : Int) + 1) W true (decide_eq_true (by omega))
  have c2 := fun W => isCount_any (c : Int) W true (decide_eq_true (by omega))
  have hcell := hK j hj
  obtain ⟨p1, e1⟩ : ∃ p, ((c : Int) == 1) = p := ⟨_, rfl⟩
  obtain ⟨p2, e2⟩ : ∃ p, ((j : Int) + 1 == 3) = p := ⟨_, rfl⟩
  have hR : kwordN (j + 1) c = if (p1 || p2) = true then kindN j else kindN j ++ ⟨#[115]⟩ := by
    unfold kwordN
    rw [Nat.add_sub_cancel, ← e1, ← e2]
    by_cases q1 : c = 1 <;> by_cases q2 : j + 1 = 3
    · rw [if_neg (by omega), if_pos (by simp [q1])]
    · rw [if_neg (by omega), if_pos (by simp [q1])]
    · rw [if_neg (by omega), if_pos (by simp; omega)]
    · rw [if_pos (by omega), if_neg (by simp; omega)]
  rw [hR]
  have hs := kindN_size hj
  generalize kindN j = s at *
  clear hR hK
  cases p1 <;> cases p2
  all_goals
    go_enter Tryd.func33, Tryd.ntmps33
    go_wp2_with (first | (go_at_call 55; refine (c1 _).mono ?_; rintro e w' ⟨rfl, rfl⟩) | (go_at_call 54; refine (c2 _).mono ?_; rintro e w' ⟨rfl, rfl⟩))
    go_ret2
    exact ⟨rfl, rfl⟩
theorem kindWord_impl (k c : Nat) (w : World) (hk1 : 1 ≤ k) (hk : k ≤ 8) (hc1 : 1 ≤ c) (hc : c ≤ 6) (hK : KindsLie w) :
    Calls Tryd.prog 33 #[.int .i64 (k : Int), .int .i64 (c : Int)] w fun e w' => e = .returned (.tuple #[.string (kwordN k c), .bool true]) ∧ w = w' := by
  obtain ⟨j, rfl⟩ : ∃ j, k = j + 1 := ⟨k - 1, by omega⟩
  exact kindWord_impl' j c w (by omega) hc1 hc hK
theorem kindWord_impl_no (k c : Int) (w : World) (h : ¬ ((1 ≤ k ∧ k ≤ 8) ∧ 1 ≤ c ∧ c ≤ 6)) :
    Calls Tryd.prog 33 #[.int .i64 k, .int .i64 c] w fun e w' => e = .returned (.tuple #[.string ⟨#[]⟩, .bool false]) ∧ w = w' := by
  obtain ⟨p1, h1⟩ : ∃ p, decide (1 ≤ k ∧ k ≤ 8) = p := ⟨_, rfl⟩
  obtain ⟨p2, h2⟩ : ∃ p, decide (1 ≤ c ∧ c ≤ 6) = p := ⟨_, rfl⟩
  have c1 := fun W => isKind_any k W p1 h1
  have c2 := fun W => isCount_any c W p2 h2
  cases p1
  · clear h1 h2 h
    go_enter Tryd.func33, Tryd.ntmps33
    go_wp2_with (go_at_call 55; refine (c1 _).mono ?_; rintro e w' ⟨rfl, rfl⟩)
    go_ret2
    exact ⟨rfl, rfl⟩
  · cases p2
    · clear h1 h2 h
      go_enter Tryd.func33, Tryd.ntmps33
      go_wp2_with (first | (go_at_call 55; refine (c1 _).mono ?_; rintro e w' ⟨rfl, rfl⟩) | (go_at_call 54; refine (c2 _).mono ?_; rintro e w' ⟨rfl, rfl⟩))
      go_ret2
      exact ⟨rfl, rfl⟩
    · exact absurd ⟨of_decide_eq_true h1, of_decide_eq_true h2⟩ h
set_option maxHeartbeats 1000000 in
theorem countWord_impl (ci j : Nat) (a t : Int) (w : World) (hc : ci < 6) (hC : CountsLie w) :
    Calls Tryd.prog 46 #[.agg #[.int .i64 ((ci : Int) + 1), .int .i64 ((j : Int) + 1), .int .i64 a, .int .i64 t]] w fun e w' => e = .returned (.string (artN (ci + 1) (j + 1))) ∧ Below w.heap.size w w' := by
  have hcell := hC ci hc
  have hcell' : (w.alloc (.cells #[.int .i64 ((ci : Int) + 1), .int .i64 ((j : Int) + 1), .int .i64 a, .int .i64 t] 25 (0, 0))).cell? ⟨4, ci, none⟩ = some (.string (countN ci)) := by
    rw [World.cell?_alloc_lt _ _ _ (World.block_lt_of_cell? w _ hcell)]; exact hcell
  obtain ⟨p1, e1⟩ : ∃ p, ((ci : Int) + 1 == 1) = p := ⟨_, rfl⟩
  obtain ⟨p2, e2⟩ : ∃ p, ((j : Int) + 1 == 2) = p := ⟨_, rfl⟩
  have hR : artN (ci + 1) (j + 1) = if (p1 && p2) = true then ⟨#[97, 110]⟩ else countN ci := by
    unfold artN
    rw [Nat.add_sub_cancel, ← e1, ← e2]
    by_cases q1 : ci + 1 = 1 <;> by_cases q2 : j + 1 = 2
    · rw [if_pos ⟨q1, q2⟩, if_pos (by simp; omega)]
    · rw [if_neg (fun h => q2 h.2), if_neg (by simp; omega)]
    · rw [if_neg (fun h => q1 h.1), if_neg (by simp; omega)]
    · rw [if_neg (fun h => q1 h.1), if_neg (by simp; omega)]
  rw [hR]
  generalize countN ci = s at *
  clear hR hC hcell
  cases p1 <;> cases p2
  all_goals
    go_enter Tryd.func46, Tryd.ntmps46
    go_wp2_with fail
    go_ret
    exact ⟨rfl, (Below.refl _ _).alloc (Nat.le_refl _) _⟩
end Go.Proofs.YtklfkdmmclomoaaDoor
