/- Contracts: whether a cell belongs to the shield, the program's and the model's. -/
import Derived.Test.YthapidnjioindaaC9M
import Derived.Test.YthapidnjioindaaBase
import Derived.Test.YthapidnjioindaaProg
import Derived.WalkLawsBesides
import Derived.IntWalk
import Derived.Deep.QuietTactic
import Derived.Deep.RegionWith
import Derived.BigQuiet
namespace Go.Proofs.Ythapidnjioindaa
open Go.RowKit

theorem in_any (x a b : Int) (w : World) (p : Bool) (hp : decide (a ≤ x ∧ x ≤ b) = p) :
    Calls Try.prog 35 #[.int .i64 x, .int .i64 a, .int .i64 b] w fun e w' => e = .returned (.bool p) ∧ w = w' := by
  obtain ⟨p1, e1⟩ : ∃ p, decide (a ≤ x) = p := ⟨_, rfl⟩
  obtain ⟨p2, e2⟩ : ∃ p, decide (x ≤ b) = p := ⟨_, rfl⟩
  have hR : (p1 && p2) = p := by rw [← hp, ← e1, ← e2]; by_cases h : a ≤ x <;> by_cases h' : x ≤ b <;> simp [h, h']
  clear hp
  subst hR
  cases p1
  all_goals
    go_enter Try.func35, Try.ntmps35
    go_wp2_with fail
    go_ret
    exact ⟨by first | rfl | simp, rfl⟩
/-- The cell (x, y) is one of the grid, and of the shield. -/
def shZ (x y : Int) : Bool := decide (0 ≤ x ∧ x ≤ 19) && (decide (0 ≤ y ∧ y ≤ 23) && shB x.toNat y.toNat)
theorem shZ_nat {x y : Nat} (hx : x < 20) (hy : y < 24) : shZ (x : Int) (y : Int) = shB x y := by
  unfold shZ
  rw [decide_eq_true (by omega), decide_eq_true (by omega)]
  simp
theorem sq_bound (a n : Int) (h0 : -n ≤ a) (h1 : a ≤ n) : 0 ≤ a * a ∧ a * a ≤ n * n := by
  have hn : 0 ≤ n := by omega
  constructor
  · rcases Int.le_total 0 a with h | h
    · exact Int.mul_nonneg h h
    · have := Int.mul_nonneg (Int.neg_nonneg_of_nonpos h) (Int.neg_nonneg_of_nonpos h)
      rwa [Int.neg_mul_neg] at this
  · have h3 : 0 ≤ (n - a) * (n + a) := Int.mul_nonneg (by omega) (by omega)
    have h4 : (n - a) * (n + a) = n * n - a * a := by rw [Int.sub_mul, Int.mul_add, Int.mul_add, Int.mul_comm a n]; omega
    omega
theorem inShield_impl (x y : Int) (w : World) :
    Calls Try.prog 38 #[.int .i64 x, .int .i64 y] w fun e w' => e = .returned (.bool (shZ x y)) ∧ w = w' := by
  by_cases hx0 : x < 0
  · have e1 : decide (x < 0) = true := by simpa using hx0
    rw [show shZ x y = false by unfold shZ; rw [decide_eq_false (by omega)]; rfl]
    go_enter Try.func38, Try.ntmps38
    go_wp2_with fail
    go_ret
    exact ⟨rfl, rfl⟩
  have e1 : decide (x < 0) = false := by simpa using hx0
  by_cases hx1 : 19 < x
  · have e2 : decide (20 ≤ x) = true := by simp; omega
    rw [show shZ x y = false by unfold shZ; rw [decide_eq_false (by omega)]; rfl]
    go_enter Try.func38, Try.ntmps38
    go_wp2_with fail
    go_ret
    exact ⟨rfl, rfl⟩
  have e2 : decide (20 ≤ x) = false := by simp; omega
  by_cases hy0 : y < 0
  · have e3 : decide (y < 0) = true := by simpa using hy0
    rw [show shZ x y = false by unfold shZ; rw [decide_eq_false (p := 0 ≤ y ∧ y ≤ 23) (by omega)]; simp]
    go_enter Try.func38, Try.ntmps38
    go_wp2_with fail
    go_ret
    exact ⟨rfl, rfl⟩
  have e3 : decide (y < 0) = false := by simpa using hy0
  by_cases hy1 : 23 < y
  · have e4 : decide (24 ≤ y) = true := by simp; omega
    rw [show shZ x y = false by unfold shZ; rw [decide_eq_false (p := 0 ≤ y ∧ y ≤ 23) (by omega)]; simp]
    go_enter Try.func38, Try.ntmps38
    go_wp2_with fail
    go_ret
    exact ⟨rfl, rfl⟩
  have e4 : decide (24 ≤ y) = false := by simp; omega
  obtain ⟨a, rfl⟩ : ∃ a : Nat, x = a := ⟨x.toNat, by omega⟩
  obtain ⟨b, rfl⟩ : ∃ b : Nat, y = b := ⟨y.toNat, by omega⟩
  rw [shZ_nat (by omega) (by omega)]
  clear e1 e2 e3 e4 hx0 hy0
  by_cases h12 : b < 12
  · rw [show shB a b = true by unfold shB; rw [decide_eq_true h12]; rfl]
    have e5 : decide ((b : Int) < 12) = true := by simp; omega
    go_enter Try.func38, Try.ntmps38
    go_wp2_with fail
    go_ret
    exact ⟨rfl, rfl⟩
  · have e5 : decide ((b : Int) < 12) = false := by simp; omega
    have q1 := sq_bound (24 * (2 * (a : Int) + 1 - 20)) 456 (by omega) (by omega)
    have q2 := sq_bound (20 * (2 * (b : Int) + 1 - 24)) 460 (by omega) (by omega)
    have hq : decide (24 * (2 * (a : Int) + 1 - 20) * (24 * (2 * (a : Int) + 1 - 20)) + 20 * (2 * (b : Int) + 1 - 24) * (20 * (2 * (b : Int) + 1 - 24)) ≤ 230400) = shB a b := by
      unfold shB
      rw [decide_eq_false h12, Bool.false_or]
      congr 1
      have h1 : 24 * (2 * (a : Int) + 1 - 20) * (24 * (2 * (a : Int) + 1 - 20)) = 576 * (2 * (a : Int) - 19) * (2 * (a : Int) - 19) := by
        rw [show 2 * (a : Int) + 1 - 20 = 2 * (a : Int) - 19 by omega]
        generalize 2 * (a : Int) - 19 = z
        rw [Int.mul_assoc, Int.mul_left_comm z 24 z, ← Int.mul_assoc, ← Int.mul_assoc]; rfl
      have h2 : 20 * (2 * (b : Int) + 1 - 24) * (20 * (2 * (b : Int) + 1 - 24)) = 400 * (2 * (b : Int) - 23) * (2 * (b : Int) - 23) := by
        rw [show 2 * (b : Int) + 1 - 24 = 2 * (b : Int) - 23 by omega]
        generalize 2 * (b : Int) - 23 = z
        rw [Int.mul_assoc, Int.mul_left_comm z 20 z, ← Int.mul_assoc, ← Int.mul_assoc]; rfl
      rw [h1, h2]
    go_enter Try.func38, Try.ntmps38
    go_wp2_with fail
    go_ret
    exact ⟨by first | rfl | rw [hq], rfl⟩
theorem l9In_any (x y : Int) (w : World) :
    Calls Try.prog 40 #[.int .i64 x, .int .i64 y] w fun e w' => e = .returned (.bool (shZ x y)) ∧ w = w' := by
  obtain ⟨px, hpx⟩ : ∃ p, decide (0 ≤ x ∧ x ≤ 19) = p := ⟨_, rfl⟩
  obtain ⟨py, hpy⟩ : ∃ p, decide (0 ≤ y ∧ y ≤ 23) = p := ⟨_, rfl⟩
  have CX := Lib.hid (fun W => in_any x 0 19 W px hpx)
  have CY := Lib.hid (fun W => in_any y 0 23 W py hpy)
  have hs : shZ x y = (px && (py && shB x.toNat y.toNat)) := by unfold shZ; rw [hpx, hpy]
  rw [hs]
  clear hs
  cases px
  · clear hpx hpy
    go_enter Try.func40, Try.ntmps40
    go_wp2_with fail
    refine (CX.out _).mono ?_
    rintro e w' ⟨rfl, rfl⟩
    go_wp2_with fail
    go_ret
    exact ⟨rfl, rfl⟩
  cases py
  · clear hpx hpy
    go_enter Try.func40, Try.ntmps40
    go_wp2_with fail
    refine (CX.out _).mono ?_
    rintro e w' ⟨rfl, rfl⟩
    go_wp2_with fail
    refine (CY.out _).mono ?_
    rintro e w' ⟨rfl, rfl⟩
    go_wp2_with fail
    go_ret
    exact ⟨rfl, rfl⟩
  have hx := of_decide_eq_true hpx
  have hy := of_decide_eq_true hpy
  clear hpx hpy
  obtain ⟨a, rfl⟩ : ∃ a : Nat, x = a := ⟨x.toNat, by omega⟩
  obtain ⟨b, rfl⟩ : ∃ b : Nat, y = b := ⟨y.toNat, by omega⟩
  simp only [Bool.true_and, Int.toNat_natCast]
  have ha := hx.2
  have hb := hy.2
  clear hx hy
  by_cases h12 : b < 12
  · rw [show shB a b = true by unfold shB; rw [decide_eq_true h12]; rfl]
    have e5 : decide ((b : Int) < 12) = true := by simp; omega
    go_enter Try.func40, Try.ntmps40
    go_wp2_with fail
    refine (CX.out _).mono ?_
    rintro e w' ⟨rfl, rfl⟩
    go_wp2_with fail
    refine (CY.out _).mono ?_
    rintro e w' ⟨rfl, rfl⟩
    go_wp2_with fail
    go_ret
    exact ⟨rfl, rfl⟩
  · have e5 : decide ((b : Int) < 12) = false := by simp; omega
    have q1 := sq_bound (2 * (a : Int) - 19) 19 (by omega) (by omega)
    have q2 := sq_bound (2 * (b : Int) - 23) 23 (by omega) (by omega)
    have r1 : 576 * (2 * (a : Int) - 19) * (2 * (a : Int) - 19) = 576 * ((2 * (a : Int) - 19) * (2 * (a : Int) - 19)) := Int.mul_assoc _ _ _
    have r2 : 400 * (2 * (b : Int) - 23) * (2 * (b : Int) - 23) = 400 * ((2 * (b : Int) - 23) * (2 * (b : Int) - 23)) := Int.mul_assoc _ _ _
    have hq : decide (576 * ((2 * (a : Int) - 19) * (2 * (a : Int) - 19)) + 400 * ((2 * (b : Int) - 23) * (2 * (b : Int) - 23)) ≤ 230400) = shB a b := by
      unfold shB
      rw [decide_eq_false h12, Bool.false_or, r1, r2]
    go_enter Try.func40, Try.ntmps40
    go_wp2_with fail
    refine (CX.out _).mono ?_
    rintro e w' ⟨rfl, rfl⟩
    go_wp2_with fail
    refine (CY.out _).mono ?_
    rintro e w' ⟨rfl, rfl⟩
    go_wp2_with fail
    go_ret
    exact ⟨by first | rfl | rw [hq], rfl⟩
end Go.Proofs.Ythapidnjioindaa
