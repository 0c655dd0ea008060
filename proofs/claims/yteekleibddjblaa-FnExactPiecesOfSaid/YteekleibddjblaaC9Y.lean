/- Plain facts of pieces: rows of cells as sets, what one step of growing reaches, the lowest bit. -/
import Derived.Test.YteekleibddjblaaC9X
import Derived.Test.YteekleibddjblaaC9E
namespace Go.Proofs.Yteekleibddjblaa
open Go.RowKit

/-- Twenty-four rows of cells. -/
def NR (X : List Int) : Prop := X.length = 24 ∧ ∀ j, j < 24 → X.getD j 0 = ((NX X j : Nat) : Int) ∧ NX X j < 1048576
/-- The rows hold the cell. -/
def cellR (X : List Int) (c : Nat) : Prop := c < 480 ∧ (NX X (c / 20)).testBit (c % 20) = true
theorem nr_good {X : List Int} (h : goodR X = true) : NR X := ⟨goodR_len h, fun _ hj => ⟨NX_eq h hj, NX_lt h hj⟩⟩
theorem nr_bit {X : List Int} (h : NR X) {y x : Nat} (hy : y < 24) (hb : (NX X y).testBit x = true) : x < 20 := by
  rcases Nat.lt_or_ge x 20 with h1 | h1
  · exact h1
  · have h2 := (h.2 y hy).2
    rw [Nat.testBit_lt_two_pow (Nat.lt_of_lt_of_le (show NX X y < 2 ^ 20 by omega) (Nat.pow_le_pow_right (by omega) h1))] at hb
    cases hb
theorem cellR_at (X : List Int) {x y : Nat} (hx : x < 20) (hy : y < 24) : cellR X (20 * y + x) ↔ (NX X y).testBit x = true := by
  unfold cellR
  rw [show (20 * y + x) / 20 = y by omega, show (20 * y + x) % 20 = x by omega]
  exact ⟨fun h => h.2, fun h => ⟨by omega, h⟩⟩
/-- The neighbours of a cell, by the four rows beside. -/
theorem bes_next {P : List Int} (h : NR P) {x y : Nat} (hx : x < 20) (hy : y < 24) : (∃ k, k < 4 ∧ (besN P y k).testBit x = true) ↔ ∃ b, cellR P b ∧ nextTo b (20 * y + x) := by
  constructor
  · rintro ⟨k, hk, hb⟩
    have hk4 : k = 0 ∨ k = 1 ∨ k = 2 ∨ k = 3 := by omega
    rcases hk4 with rfl | rfl | rfl | rfl
    · change (2 * NX P y).testBit x = true at hb
      rcases Nat.eq_zero_or_pos x with rfl | h0
      · simp [Nat.testBit_zero] at hb
      · obtain ⟨m, rfl⟩ : ∃ m, x = m + 1 := ⟨x - 1, by omega⟩
        rw [Nat.testBit_succ, show 2 * NX P y / 2 = NX P y by omega] at hb
        exact ⟨20 * y + m, (cellR_at P (by omega) hy).2 hb, by unfold nextTo; omega⟩
    · change (NX P y / 2).testBit x = true at hb
      rw [← Nat.testBit_succ] at hb
      have h1 := nr_bit h hy hb
      exact ⟨20 * y + (x + 1), (cellR_at P h1 hy).2 hb, by unfold nextTo; omega⟩
    · change (if y = 0 then 0 else NX P (y - 1)).testBit x = true at hb
      split at hb
      · simp at hb
      · exact ⟨20 * (y - 1) + x, (cellR_at P hx (by omega)).2 hb, by unfold nextTo; omega⟩
    · change (if y + 1 < 24 then NX P (y + 1) else 0).testBit x = true at hb
      split at hb
      · exact ⟨20 * (y + 1) + x, (cellR_at P hx (by omega)).2 hb, by unfold nextTo; omega⟩
      · simp at hb
  · rintro ⟨b, ⟨hb, hbit⟩, hn⟩
    unfold nextTo at hn
    rcases hn with ⟨e, e2⟩ | ⟨e, e2⟩ | e | e
    · -- b is the cell on the left
      refine ⟨0, by omega, ?_⟩
      show (2 * NX P y).testBit x = true
      obtain ⟨m, rfl⟩ : ∃ m, x = m + 1 := ⟨x - 1, by omega⟩
      rw [Nat.testBit_succ, show 2 * NX P y / 2 = NX P y by omega]
      rw [show b / 20 = y by omega, show b % 20 = m by omega] at hbit
      exact hbit
    · refine ⟨1, by omega, ?_⟩
      show (NX P y / 2).testBit x = true
      rw [← Nat.testBit_succ]
      rw [show b / 20 = y by omega, show b % 20 = x + 1 by omega] at hbit
      exact hbit
    · refine ⟨2, by omega, ?_⟩
      show (if y = 0 then 0 else NX P (y - 1)).testBit x = true
      rw [if_neg (by omega)]
      rw [show b / 20 = y - 1 by omega, show b % 20 = x by omega] at hbit
      exact hbit
    · refine ⟨3, by omega, ?_⟩
      show (if y + 1 < 24 then NX P (y + 1) else 0).testBit x = true
      rw [if_pos (by omega)]
      rw [show b / 20 = y + 1 by omega, show b % 20 = x by omega] at hbit
      exact hbit
/-- What row y of a piece has reached behind k sides, within the rows F. -/
def grownN (P F : List Int) (y : Nat) : Nat → Nat
  | 0 => NX P y
  | k + 1 => grownN P F y k ||| (besN P y k &&& NX F y)
theorem grownN_bit (P F : List Int) (y x : Nat) : ∀ k, (grownN P F y k).testBit x = true ↔ (NX P y).testBit x = true ∨ ((∃ j, j < k ∧ (besN P y j).testBit x = true) ∧ (NX F y).testBit x = true)
  | 0 => by
    show (NX P y).testBit x = true ↔ _
    constructor
    · exact .inl
    · rintro (h | ⟨⟨j, hj, _⟩, _⟩)
      · exact h
      · omega
  | k + 1 => by
    show (grownN P F y k ||| (besN P y k &&& NX F y)).testBit x = true ↔ _
    rw [Nat.testBit_or, Nat.testBit_and]
    simp only [Bool.or_eq_true, Bool.and_eq_true]
    rw [grownN_bit P F y x k]
    constructor
    · rintro ((h | ⟨⟨j, hj, h1⟩, h2⟩) | ⟨h1, h2⟩)
      · exact .inl h
      · exact .inr ⟨⟨j, by omega, h1⟩, h2⟩
      · exact .inr ⟨⟨k, by omega, h1⟩, h2⟩
    · rintro (h | ⟨⟨j, hj, h1⟩, h2⟩)
      · exact .inl (.inl h)
      · rcases Nat.lt_succ_iff_lt_or_eq.1 hj with h | rfl
        · exact .inl (.inr ⟨⟨j, h, h1⟩, h2⟩)
        · exact .inr ⟨h1, h2⟩
theorem grownN_lt {P F : List Int} (hP : NR P) (hF : NR F) {y : Nat} (hy : y < 24) : ∀ k, grownN P F y k < 1048576
  | 0 => (hP.2 y hy).2
  | k + 1 => by
    have h1 := grownN_lt hP hF hy k
    have h2 := (hF.2 y hy).2
    have h3 : besN P y k &&& NX F y < 2 ^ 20 := Nat.and_lt_two_pow _ (by omega)
    have := Nat.or_lt_two_pow (show grownN P F y k < 2 ^ 20 by omega) h3
    show _ ||| _ < _
    omega
theorem grownN_le {P F : List Int} {y : Nat} : ∀ k, NX P y ≤ grownN P F y k
  | 0 => Nat.le_refl _
  | k + 1 => Nat.le_trans (grownN_le k) Nat.left_le_or
/-- The lowest bit. -/
theorem low_bit {N : Nat} (h0 : N ≠ 0) (hN : N < 1048576) : ∃ j, j < 20 ∧ N.testBit j = true ∧ (∀ x, x < j → N.testBit x = false) ∧ bits .and .i64 (N : Int) (-(N : Int)) = ((2 ^ j : Nat) : Int) := by
  have hex : ∃ j, N.testBit j = true := by
    rcases Classical.em (∃ j, N.testBit j = true) with h | h
    · exact h
    · exact absurd (Nat.eq_of_testBit_eq (fun i => by
        rw [Nat.zero_testBit]
        cases hi : N.testBit i
        · rfl
        · exact absurd ⟨i, hi⟩ h)) h0
  obtain ⟨j, hj, hmin⟩ : ∃ j, N.testBit j = true ∧ ∀ x, x < j → N.testBit x = false := by
    obtain ⟨j, hj⟩ := hex
    induction j using Nat.strongRecOn with
    | _ j ih =>
      rcases Classical.em (∃ x, x < j ∧ N.testBit x = true) with ⟨x, hx, hb⟩ | h
      · exact ih x hx hb
      · exact ⟨j, hj, fun x hx => by
          cases hi : N.testBit x
          · rfl
          · exact absurd ⟨x, hx, hi⟩ h⟩
  have hj20 : j < 20 := by
    rcases Nat.lt_or_ge j 20 with h1 | h1
    · exact h1
    · rw [Nat.testBit_lt_two_pow (Nat.lt_of_lt_of_le (show N < 2 ^ 20 by omega) (Nat.pow_le_pow_right (by omega) h1))] at hj
      cases hj
  refine ⟨j, hj20, hj, hmin, ?_⟩
  -- N is an odd multiple of 2 ^ j
  obtain ⟨m, hm⟩ : ∃ m, N = 2 ^ j * (2 * m + 1) := by
    have h1 : N % 2 ^ j = 0 := Nat.eq_of_testBit_eq (fun i => by
      rw [Nat.testBit_mod_two_pow, Nat.zero_testBit]
      by_cases hi : i < j
      · rw [hmin i hi]; simp
      · simp [hi])
    have h2 : N / 2 ^ j % 2 = 1 := by
      have := hj
      rw [Nat.testBit_eq_decide_div_mod_eq] at this
      simpa using this
    refine ⟨N / 2 ^ j / 2, ?_⟩
    have h3 := Nat.div_add_mod N (2 ^ j)
    rw [h1, Nat.add_zero] at h3
    have h4 : 2 * (N / 2 ^ j / 2) + 1 = N / 2 ^ j := by omega
    rw [h4, h3]
  have hpos : 0 < 2 ^ j := Nat.pow_pos (by omega)
  have hN1 : N - 1 = 2 ^ j * (2 * m) + (2 ^ j - 1) := by
    rw [hm, Nat.mul_add, Nat.mul_one]; omega
  have e : (BitVec.ofInt 64 (-(N : Int))).toNat = 2 ^ 64 - ((N - 1) + 1) := by
    rw [BitVec.toNat_ofInt]
    omega
  show IntKind.i64.wrap ((BitVec.ofInt 64 (N : Int) &&& BitVec.ofInt 64 (-(N : Int))).toNat : Int) = _
  rw [BitVec.toNat_and, ofInt_u64 N (by omega), e]
  have hand : N &&& (2 ^ 64 - ((N - 1) + 1)) = 2 ^ j := by
    apply Nat.eq_of_testBit_eq
    intro i
    rw [Nat.testBit_and, Nat.testBit_two_pow_sub_succ (show N - 1 < 2 ^ 64 by omega), Nat.testBit_two_pow]
    have t1 : N.testBit i = if i < j then false else (2 * m + 1).testBit (i - j) := by
      have := Nat.testBit_two_pow_mul_add (i := j) (2 * m + 1) (b := 0) hpos i
      rw [Nat.add_zero, ← hm] at this
      rw [this]; simp
    have t2 : (N - 1).testBit i = if i < j then (2 ^ j - 1).testBit i else (2 * m).testBit (i - j) := by
      rw [hN1]
      exact Nat.testBit_two_pow_mul_add (i := j) (2 * m) (by omega) i
    rw [t1, t2]
    by_cases h1 : i < j
    · rw [if_pos h1, if_pos h1]
      have : j ≠ i := by omega
      simp [this]
    · rw [if_neg h1, if_neg h1]
      by_cases h2 : j = i
      · subst h2
        have h64 : j < 64 := by omega
        simp [Nat.testBit_zero, h64]
      · obtain ⟨q, hq⟩ : ∃ q, i - j = q + 1 := ⟨i - j - 1, by omega⟩
        rw [hq, Nat.testBit_succ, Nat.testBit_succ, show (2 * m + 1) / 2 = m by omega, show 2 * m / 2 = m by omega]
        simp [h2]
        intro h _
        exact h
  rw [hand]
  exact i64w _ (Nat.lt_of_le_of_lt (Nat.pow_le_pow_right (by omega) (show j ≤ 20 by omega)) (by omega))
end Go.Proofs.Yteekleibddjblaa
