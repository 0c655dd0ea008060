/- Plain facts of chapter 11: boxes, and how a region is filled with them. -/
import Derived.Test.YthapidnjioindaaC9V
namespace Go.Proofs.Ythapidnjioindaa
open Go.RowKit

/-- A box: its column, its row and its size. -/
structure Bx where
  x : Int
  y : Int
  n : Int
  deriving DecidableEq
/-- All cells of the square are such. -/
def whole (p : Nat → Nat → Bool) (x y n : Nat) : Bool := (List.range n).all fun j => (List.range n).all fun i => p (x + i) (y + j)
theorem whole_iff {p : Nat → Nat → Bool} {x y n : Nat} : whole p x y n = true ↔ ∀ j, j < n → ∀ i, i < n → p (x + i) (y + j) = true := by
  simp [whole]
theorem whole_no {p : Nat → Nat → Bool} {x y n i j : Nat} (hj : j < n) (hi : i < n) (h : p (x + i) (y + j) = false) : whole p x y n = false := by
  cases hw : whole p x y n
  · rfl
  · rw [whole_iff.1 hw j hj i hi] at h; cases h
/-- The rows have the cell. -/
def tb (F : Nat → Nat) (i j : Nat) : Bool := (F j).testBit i
/-- The cell lies on the shield and the rows have it. -/
def cellF (F : Nat → Nat) (i j : Nat) : Bool := shZ (i : Int) (j : Int) && (F j).testBit i
/-- Rows of cells of the shield. -/
def GoodF (F : Nat → Nat) : Prop := ∀ y, y < 24 → F y < 1048576 ∧ ∀ x, x < 20 → (F y).testBit x = true → shB x y = true
theorem bit20 {a x : Nat} (ha : a < 1048576) (h : a.testBit x = true) : x < 20 := by
  rcases Nat.lt_or_ge x 20 with h1 | h1
  · exact h1
  · rw [Nat.testBit_lt_two_pow (Nat.lt_of_lt_of_le (show a < 2 ^ 20 by omega) (Nat.pow_le_pow_right (by omega) h1))] at h; cases h
theorem good_shN : GoodF shN := fun y _ => ⟨shN_lt y, fun x hx h => by
  unfold shN at h
  rw [rowN_bit] at h
  simp at h; exact h.2⟩
theorem good_out {X : List Int} (h : goodR X = true) : ∃ V, X = rowsOfR V ∧ GoodF V := by
  have hl := goodR_len h
  have hq : ∀ y, y < 24 → ∃ N : Nat, X.getD y 0 = (N : Int) ∧ N < 1048576 := fun y hy => by
    obtain ⟨N, h1, h2, _⟩ := goodRow_out (shN_lt y) (goodR_at h hy)
    exact ⟨N, h1, h2⟩
  refine ⟨fun y => (X.getD y 0).toNat, ?_, fun y hy => ?_⟩
  · apply List.ext_getElem?
    intro i
    rcases Nat.lt_or_ge i 24 with hi | hi
    · rw [rowsOfR_at _ hi]
      obtain ⟨N, h1, _⟩ := hq i hi
      have h2 : i < X.length := by omega
      rw [h1, List.getElem?_eq_getElem h2]
      simp only [List.getD, List.getElem?_eq_getElem h2, Option.getD_some] at h1
      rw [h1]; simp
    · rw [List.getElem?_eq_none (by omega), List.getElem?_eq_none (by rw [rowsOfR_len]; exact hi)]
  · obtain ⟨N, h1, h2⟩ := hq y hy
    have h3 := goodR_at h hy
    rw [h1] at h3
    show (X.getD y 0).toNat < 1048576 ∧ ∀ x, x < 20 → ((X.getD y 0).toNat).testBit x = true → shB x y = true
    rw [h1]
    exact ⟨by simpa using h2, by simpa using (goodRow_bits h2).1 h3⟩
theorem whole_good {F : Nat → Nat} (hF : GoodF F) {x y n : Nat} (h : y + n ≤ 24) : whole (cellF F) x y n = whole (tb F) x y n := by
  rw [Bool.eq_iff_iff, whole_iff, whole_iff]
  constructor
  · intro hw j hj i hi
    have := hw j hj i hi
    unfold cellF at this
    simp only [Bool.and_eq_true] at this
    exact this.2
  · intro hw j hj i hi
    have h1 := hw j hj i hi
    unfold tb at h1
    obtain ⟨g1, g2⟩ := hF (y + j) (by omega)
    have h20 := bit20 g1 h1
    unfold cellF
    rw [shZ_nat h20 (by omega), g2 _ h20 h1, h1]; rfl
/-- The bits of n columns from x on. -/
def maskN (n x : Nat) : Nat := 2 ^ x * (2 ^ n - 1)
theorem maskN_bit (n x k : Nat) : (maskN n x).testBit k = decide (x ≤ k ∧ k < x + n) := by
  unfold maskN
  rw [Nat.testBit_two_pow_mul, Nat.testBit_two_pow_sub_one]
  by_cases h : x ≤ k
  · simp [h]
    omega
  · simp [h]
theorem maskN_lt {n x : Nat} (hn : n ≤ 8) (hx : x ≤ 20) : maskN n x < 1099511627776 := by
  have h1 : 2 ^ x ≤ 2 ^ 20 := Nat.pow_le_pow_right (by omega) hx
  have h2 : 2 ^ n ≤ 2 ^ 8 := Nat.pow_le_pow_right (by omega) hn
  have h3 : 2 ^ x * (2 ^ n - 1) ≤ 2 ^ 20 * 255 := Nat.mul_le_mul h1 (by omega)
  unfold maskN
  omega
theorem lessN_zero {a b : Nat} (ha : a < 1099511627776) (hb : b < 1099511627776) : lessN a b = 0 ↔ ∀ k, a.testBit k = true → b.testBit k = true := by
  constructor
  · intro h k hk
    have := lessN_bit hb ha k
    rw [h, hk] at this
    simpa using this
  · intro h
    apply Nat.eq_of_testBit_eq
    intro k
    rw [lessN_bit hb ha]
    cases hk : a.testBit k
    · simp
    · simp [h k hk]
/-- The row has all columns of the box. -/
theorem row_whole {F : Nat → Nat} {n x j : Nat} (hn : n ≤ 8) (hx : x ≤ 20) (hF : F j < 1048576) : lessN (maskN n x) (F j) = 0 ↔ ∀ i, i < n → (F j).testBit (x + i) = true := by
  rw [lessN_zero (maskN_lt hn hx) (by omega)]
  constructor
  · intro h i hi
    exact h (x + i) (by rw [maskN_bit]; simp; omega)
  · intro h k hk
    rw [maskN_bit] at hk
    simp at hk
    have := h (k - x) (by omega)
    rwa [show x + (k - x) = k by omega] at this

/-- The rows from y on, k of them, without the bits of a mask. -/
def clearF (F : Nat → Nat) (M y k : Nat) : Nat → Nat := fun j => if y ≤ j ∧ j < y + k then lessN (F j) M else F j
theorem clearF_zero (F : Nat → Nat) (M y : Nat) : clearF F M y 0 = F := by
  funext j; unfold clearF; rw [if_neg (by omega)]
theorem clearF_good {F : Nat → Nat} (hF : GoodF F) {M : Nat} (hM : M < 1099511627776) (y k : Nat) : GoodF (clearF F M y k) := fun j hj => by
  obtain ⟨h1, h2⟩ := hF j hj
  unfold clearF
  split
  · refine ⟨lessN_lt h1, fun x hx hb => h2 x hx ?_⟩
    rw [lessN_bit hM (by omega)] at hb
    simp at hb; exact hb.1
  · exact ⟨h1, h2⟩
theorem clearF_sub {F : Nat → Nat} {M y k x j : Nat} (hM : M < 1099511627776) (hF : F j < 1048576) (h : tb (clearF F M y k) x j = true) : tb F x j = true := by
  unfold tb clearF at *
  split at h
  · rw [lessN_bit hM (by omega)] at h
    simp at h; exact h.1
  · exact h
theorem rows_set (F : Nat → Nat) {j : Nat} (hj : j < 24) (v : Nat) : (rowsOfR F).set j (v : Int) = rowsOfR (fun i => if i = j then v else F i) := by
  apply List.ext_getElem?
  intro i
  rw [List.getElem?_set]
  rcases Nat.lt_or_ge i 24 with hi | hi
  · rw [rowsOfR_at _ hi, rowsOfR_at _ hi]
    by_cases e : j = i
    · subst e
      rw [if_pos rfl, if_pos (by rw [rowsOfR_len]; exact hj), if_pos rfl]
    · rw [if_neg e, if_neg (fun q => e q.symm)]
  · rw [if_neg (by omega), List.getElem?_eq_none (by rw [rowsOfR_len]; omega), List.getElem?_eq_none (by rw [rowsOfR_len]; omega)]
theorem clearF_set (F : Nat → Nat) (M y : Nat) {k : Nat} (hk : y + k < 24) : (rowsOfR (clearF F M y k)).set (y + k) ((lessN (F (y + k)) M : Nat) : Int) = rowsOfR (clearF F M y (k + 1)) := by
  rw [rows_set _ hk]
  congr 1
  funext i
  unfold clearF
  by_cases e : i = y + k
  · subst e
    rw [if_pos rfl, if_pos (by omega)]
  · rw [if_neg e]
    by_cases h : y ≤ i ∧ i < y + k
    · rw [if_pos h, if_pos (by omega)]
    · rw [if_neg h, if_neg (by omega)]
theorem clearF_at (F : Nat → Nat) (M y k : Nat) : clearF F M y k (y + k) = F (y + k) := by
  unfold clearF; rw [if_neg (by omega)]

/-- A box is put at a cell, if there is room and fewer than m are there. -/
def takeS (n m y x : Nat) (s : (Nat → Nat) × List Bx) : (Nat → Nat) × List Bx :=
  if s.2.length < m ∧ whole (tb s.1) x y n = true then (clearF s.1 (maskN n x) y n, s.2 ++ [⟨x, y, n⟩]) else s
/-- The first k cells of row y are looked at. -/
def rowS (n m y : Nat) : Nat → (Nat → Nat) × List Bx → (Nat → Nat) × List Bx
  | 0, s => s
  | k + 1, s => takeS n m y k (rowS n m y k s)
/-- The first y rows are looked at. -/
def allS (n m : Nat) (V : Nat → Nat) : Nat → (Nat → Nat) × List Bx
  | 0 => (V, [])
  | y + 1 => rowS n m y (21 - n) (allS n m V y)
/-- The boxes with which a region is filled. -/
def fillL (V : Nat → Nat) (n m : Nat) : List Bx := (allS n m V (25 - n)).2
theorem takeS_full {n m y x : Nat} {s : (Nat → Nat) × List Bx} (h : m ≤ s.2.length) : takeS n m y x s = s := by
  unfold takeS; rw [if_neg (by omega)]
theorem takeS_no {n m y x : Nat} {s : (Nat → Nat) × List Bx} (h : whole (tb s.1) x y n = false) : takeS n m y x s = s := by
  unfold takeS; rw [if_neg (by rw [h]; simp)]
theorem takeS_yes {n m y x : Nat} {s : (Nat → Nat) × List Bx} (hl : s.2.length < m) (h : whole (tb s.1) x y n = true) : takeS n m y x s = (clearF s.1 (maskN n x) y n, s.2 ++ [⟨x, y, n⟩]) := by
  unfold takeS; rw [if_pos ⟨hl, h⟩]
theorem rowS_full {n m y k : Nat} {s : (Nat → Nat) × List Bx} (h : m ≤ (rowS n m y k s).2.length) : ∀ d, rowS n m y (k + d) s = rowS n m y k s
  | 0 => rfl
  | d + 1 => by
    show takeS n m y (k + d) (rowS n m y (k + d) s) = _
    rw [rowS_full h d, takeS_full h]
theorem rowS_skip {n m y k : Nat} {s : (Nat → Nat) × List Bx} : ∀ d, (∀ x, k ≤ x → x < k + d → whole (tb (rowS n m y k s).1) x y n = false) → rowS n m y (k + d) s = rowS n m y k s
  | 0, _ => rfl
  | d + 1, h => by
    show takeS n m y (k + d) (rowS n m y (k + d) s) = _
    rw [rowS_skip d (fun x h1 h2 => h x h1 (by omega)), takeS_no (h (k + d) (by omega) (by omega))]
/-- What holds of what is left and what was put. -/
def OkS (V : Nat → Nat) (n m : Nat) (s : (Nat → Nat) × List Bx) : Prop :=
  GoodF s.1 ∧ s.2.length ≤ m ∧ (∀ i j, j < 24 → tb s.1 i j = true → tb V i j = true) ∧
  (∀ b ∈ s.2, ∃ x y : Nat, b = ⟨x, y, n⟩ ∧ x + n ≤ 20 ∧ y + n ≤ 24 ∧ whole (tb V) x y n = true ∧ ∀ i j, i < n → j < n → tb s.1 (x + i) (y + j) = false)
theorem takeS_ok {V : Nat → Nat} {n m y x : Nat} {s : (Nat → Nat) × List Bx} (hn : n ≤ 8) (hx : x + n ≤ 20) (hy : y + n ≤ 24) (h : OkS V n m s) : OkS V n m (takeS n m y x s) := by
  unfold takeS
  split
  · rename_i hc
    obtain ⟨h1, h2, h3, h4⟩ := h
    have hM := maskN_lt hn (show x ≤ 20 by omega)
    refine ⟨clearF_good h1 hM y n, ?_, fun i j hj hb => h3 i j hj (clearF_sub hM (h1 j hj).1 hb), fun b hb => ?_⟩
    · show (s.2 ++ [_]).length ≤ m
      rw [List.length_append, List.length_singleton]; omega
    · rcases List.mem_append.1 hb with hb | hb
      · obtain ⟨a, c, e, g1, g2, g3, g4⟩ := h4 b hb
        refine ⟨a, c, e, g1, g2, g3, fun i j hi hj => ?_⟩
        cases hq : tb (clearF s.1 (maskN n x) y n) (a + i) (c + j)
        · rfl
        · exact absurd (g4 i j hi hj) (by rw [clearF_sub hM (h1 _ (by omega)).1 hq]; decide)
      · rw [List.mem_singleton] at hb
        refine ⟨x, y, hb, hx, hy, ?_, fun i j hi hj => ?_⟩
        · rw [whole_iff]
          intro j hj i hi
          exact h3 _ _ (by omega) (whole_iff.1 hc.2 j hj i hi)
        · show (clearF s.1 (maskN n x) y n (y + j)).testBit (x + i) = false
          unfold clearF
          rw [if_pos (by omega), lessN_bit hM (by have := (h1 (y + j) (by omega)).1; omega), maskN_bit]
          simp; intro _; omega
  · exact h
theorem rowS_ok {V : Nat → Nat} {n m y : Nat} {s : (Nat → Nat) × List Bx} (hn : n ≤ 8) (hy : y + n ≤ 24) (h : OkS V n m s) : ∀ k, k + n ≤ 21 → OkS V n m (rowS n m y k s)
  | 0, _ => h
  | k + 1, hk => takeS_ok hn (by omega) hy (rowS_ok hn hy h k (by omega))
theorem allS_ok {V : Nat → Nat} {n m : Nat} (hn : n ≤ 8) (hV : GoodF V) : ∀ y, y + n ≤ 25 → OkS V n m (allS n m V y)
  | 0, _ => ⟨hV, Nat.zero_le _, fun _ _ _ h => h, fun b hb => by simp [allS] at hb⟩
  | y + 1, hy => rowS_ok hn (by omega) (allS_ok hn hV y (by omega)) _ (by omega)
theorem fillL_le {V : Nat → Nat} {n m : Nat} (hn : n ≤ 8) (hV : GoodF V) : (fillL V n m).length ≤ m := (allS_ok hn hV (25 - n) (by omega)).2.1

/-- The program's columns: where all of n columns have a cell in all of n rows. -/
def commN (F : Nat → Nat) (y : Nat) : Nat → Nat
  | 0 => F y
  | k + 1 => commN F y k &&& F (y + (k + 1))
def colN (c : Nat) : Nat → Nat
  | 0 => c
  | k + 1 => colN c k &&& (c / 2 ^ (k + 1))
theorem commN_bit (F : Nat → Nat) (y x : Nat) : ∀ k, (commN F y k).testBit x = true ↔ ∀ j, j < k + 1 → (F (y + j)).testBit x = true
  | 0 => by
    constructor
    · intro h j hj; obtain rfl : j = 0 := by omega
      exact h
    · intro h; exact h 0 (by omega)
  | k + 1 => by
    show (commN F y k &&& F (y + (k + 1))).testBit x = true ↔ _
    rw [Nat.testBit_and, Bool.and_eq_true, commN_bit F y x k]
    constructor
    · rintro ⟨h1, h2⟩ j hj
      by_cases e : j = k + 1
      · subst e; exact h2
      · exact h1 j (by omega)
    · intro h
      exact ⟨fun j hj => h j (by omega), h (k + 1) (by omega)⟩
theorem colN_bit (c x : Nat) : ∀ k, (colN c k).testBit x = true ↔ ∀ i, i < k + 1 → c.testBit (x + i) = true
  | 0 => by
    constructor
    · intro h i hi; obtain rfl : i = 0 := by omega
      exact h
    · intro h; exact h 0 (by omega)
  | k + 1 => by
    show (colN c k &&& (c / 2 ^ (k + 1))).testBit x = true ↔ _
    rw [Nat.testBit_and, Bool.and_eq_true, colN_bit c x k, Nat.testBit_div_two_pow]
    constructor
    · rintro ⟨h1, h2⟩ i hi
      by_cases e : i = k + 1
      · subst e; first | exact h2 | rwa [Nat.add_comm]
      · exact h1 i (by omega)
    · intro h
      exact ⟨fun i hi => h i (by omega), by first | exact h (k + 1) (by omega) | (rw [Nat.add_comm]; exact h (k + 1) (by omega))⟩
theorem commN_lt {F : Nat → Nat} {y : Nat} (h : F y < 1048576) : ∀ k, commN F y k < 1048576
  | 0 => h
  | k + 1 => by
    have := commN_lt h k
    have h2 : commN F y k &&& F (y + (k + 1)) ≤ commN F y k := Nat.and_le_left
    show commN F y k &&& F (y + (k + 1)) < _
    omega
theorem colN_lt {c : Nat} (h : c < 1048576) : ∀ k, colN c k < 1048576
  | 0 => h
  | k + 1 => by
    have := colN_lt h k
    have h2 : colN c k &&& (c / 2 ^ (k + 1)) ≤ colN c k := Nat.and_le_left
    show colN c k &&& (c / 2 ^ (k + 1)) < _
    omega
def colsN (F : Nat → Nat) (y n : Nat) : Nat := colN (commN F y (n - 1)) (n - 1)
theorem colsN_bit (F : Nat → Nat) {y n x : Nat} (hn : 1 ≤ n) : (colsN F y n).testBit x = whole (tb F) x y n := by
  rw [Bool.eq_iff_iff, whole_iff]
  unfold colsN
  rw [colN_bit]
  constructor
  · intro h j hj i hi
    exact (commN_bit F y (x + i) (n - 1)).1 (h i (by omega)) j (by omega)
  · intro h i hi
    exact (commN_bit F y (x + i) (n - 1)).2 fun j hj => h j (by omega) i (by omega)
theorem colsN_lt {F : Nat → Nat} {y : Nat} (h : F y < 1048576) (n : Nat) : colsN F y n < 1048576 := colN_lt (commN_lt h _) _
/-- Where the program stands in a row: nothing fits further left. -/
def AtRow (n m y : Nat) (s0 s : (Nat → Nat) × List Bx) : Prop := ∃ k, k + n ≤ 21 ∧ s = rowS n m y k s0 ∧ ∀ x, x < k → whole (tb s.1) x y n = false
theorem AtRow.start (n m y : Nat) (s : (Nat → Nat) × List Bx) (hn : n ≤ 8) : AtRow n m y s s := ⟨0, by omega, rfl, fun x hx => by omega⟩
theorem AtRow.full {n m y : Nat} {s0 s : (Nat → Nat) × List Bx} (h : AtRow n m y s0 s) (hl : m ≤ s.2.length) : s = rowS n m y (21 - n) s0 := by
  obtain ⟨k, hk, rfl, _⟩ := h
  have := rowS_full hl (21 - n - k)
  rw [show k + (21 - n - k) = 21 - n by omega] at this
  exact this.symm
theorem AtRow.none {n m y : Nat} {s0 s : (Nat → Nat) × List Bx} (h : AtRow n m y s0 s) (hn : 1 ≤ n) (h0 : colsN s.1 y n = 0) : s = rowS n m y (21 - n) s0 := by
  obtain ⟨k, hk, rfl, _⟩ := h
  have := rowS_skip (n := n) (m := m) (y := y) (k := k) (s := s0) (21 - n - k) (fun x _ _ => by rw [← colsN_bit _ hn, h0]; simp)
  rw [show k + (21 - n - k) = 21 - n by omega] at this
  exact this.symm
theorem AtRow.step {n m y x : Nat} {s0 s : (Nat → Nat) × List Bx} (h : AtRow n m y s0 s) (hn : 1 ≤ n) (hn8 : n ≤ 8) (hy : y + n ≤ 24) (hg : GoodF s.1) (hl : s.2.length < m) (hx : (colsN s.1 y n).testBit x = true) (hmin : ∀ i, i < x → (colsN s.1 y n).testBit i = false) :
    x + n ≤ 20 ∧ AtRow n m y s0 (clearF s.1 (maskN n x) y n, s.2 ++ [⟨x, y, n⟩]) := by
  obtain ⟨k, hk, rfl, hno⟩ := h
  have hw : whole (tb (rowS n m y k s0).1) x y n = true := by rw [← colsN_bit _ hn]; exact hx
  have hxn : x + n ≤ 20 := by
    have := whole_iff.1 hw 0 (by omega) (n - 1) (by omega)
    have := bit20 (hg y (by omega)).1 this
    omega
  have hkx : k ≤ x := by
    rcases Nat.lt_or_ge x k with h1 | h1
    · rw [hno x h1] at hw; cases hw
    · exact h1
  have hM := maskN_lt hn8 (show x ≤ 20 by omega)
  refine ⟨hxn, x + 1, by omega, ?_, fun i hi => ?_⟩
  · have h1 := rowS_skip (n := n) (m := m) (y := y) (k := k) (s := s0) (x - k) (fun i h1 h2 => by rw [← colsN_bit _ hn]; exact hmin i (by omega))
    rw [show k + (x - k) = x by omega] at h1
    show _ = takeS n m y x (rowS n m y x s0)
    rw [h1, takeS_yes hl hw]
  · cases hq : whole (tb (clearF (rowS n m y k s0).1 (maskN n x) y n)) i y n
    · rfl
    · rw [whole_iff] at hq
      by_cases e : i = x
      · subst e
        have h1 := hq 0 (by omega) 0 (by omega)
        unfold tb clearF at h1
        rw [if_pos (by omega), lessN_bit hM (by have := (hg (y + 0) (by omega)).1; omega), maskN_bit] at h1
        simp at h1
        omega
      · have h1 : whole (tb (rowS n m y k s0).1) i y n = true := by
          rw [whole_iff]
          intro j hj i' hi'
          exact clearF_sub hM (hg _ (by omega)).1 (hq j hj i' hi')
        rw [← colsN_bit _ hn, hmin i (by omega)] at h1; cases h1
/-- The largest size with so many boxes, from s downwards. -/
def largeS (V : Nat → Nat) (c : Nat) : Nat → Option (List Bx)
  | 0 => none
  | s + 1 => if (fillL V (s + 1) c).length = c then some (fillL V (s + 1) c) else largeS V c s
end Go.Proofs.Ythapidnjioindaa
