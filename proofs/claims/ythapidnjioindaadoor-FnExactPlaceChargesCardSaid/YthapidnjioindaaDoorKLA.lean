/- Several small texts in one: C11M, C11Q, C11B. -/
import Derived.Test.YthapidnjioindaaDoorKIC
import Derived.Test.YthapidnjioindaaDoorKA
import Derived.Deep.RegionWith
import Derived.Deep.LoopGhost
import Derived.OwnWalk
import Derived.Laws.OwnMore
import Derived.Maps.AppendAt
namespace Go.Proofs.YthapidnjioindaaDoor
open Go.RowKit

/-- A box: its column, its row and its size. -/
structure Bx where
  x : Int
  y : Int
  n : Int
  deriving DecidableEq
/-- All cells of the square are such. -/
def whole (p : Nat → Nat → Bool) (x y n : Nat) : Bool := (List.range n).all fun j => (List.range n).all fun i => p (x + i) (y + j)
theorem whole_iff {p : Nat → Nat → Bool} {x y n : Nat} : whole p x y n = true ↔ ∀ j, j < n → ∀ i, i < n → p (x + i) (y + j) = true := by
  simp [whole]
theorem whole_no {p : Nat → Nat → Bool} {x y n i j : Nat} (hj : j < n) (hi : i < n) (h : p (x + i) (y + j) = false) : whole p x y n = false := by
  cases hw : whole p x y n
  · rfl
  · rw [whole_iff.1 hw j hj i hi] at h; cases h
/-- The rows have the cell. -/
def tb (F : Nat → Nat) (i j : Nat) : Bool := (F j).testBit i
/-- The cell lies on the shield and the rows have it. -/
def cellF (F : Nat → Nat) (i j : Nat) : Bool := shZ (i : Int) (j : Int) && (F j).testBit i
/-- Rows of cells of the shield. -/
def GoodF (F : Nat → Nat) : Prop := ∀ y, y < 24 → F y < 1048576 ∧ ∀ x, x < 20 → (F y).testBit x = true → shB x y = true
theorem bit20 {a x : Nat} (ha : a < 1048576) (h : a.testBit x = true) : x < 20 := by
  rcases Nat.lt_or_ge x 20 with h1 | h1
  · exact h1
  · rw [Nat.testBit_lt_two_pow (Nat.lt_of_lt_of_le (show a < 2 ^ 20 by omega) (Nat.pow_le_pow_right (by omega) h1))] at h; cases h
theorem good_shN : GoodF shN := fun y _ => ⟨shN_lt y, fun x hx h => by
  unfold shN at h
  rw [rowN_bit] at h
  simp at h; exact h.2⟩
theorem good_out {X : List Int} (h : goodR X = true) : ∃ V, X = rowsOfR V ∧ GoodF V := by
  have hl := goodR_len h
  have hq : ∀ y, y < 24 → ∃ N : Nat, X.getD y 0 = (N : Int) ∧ N < 1048576 := fun y hy => by
    obtain ⟨N, h1, h2, _⟩ := goodRow_out (shN_lt y) (goodR_at h hy)
    exact ⟨N, h1, h2⟩
  refine ⟨fun y => (X.getD y 0).toNat, ?_, fun y hy => ?_⟩
  · apply List.ext_getElem?
    intro i
    rcases Nat.lt_or_ge i 24 with hi | hi
    · rw [rowsOfR_at _ hi]
      obtain ⟨N, h1, _⟩ := hq i hi
      have h2 : i < X.length := by omega
      rw [h1, List.getElem?_eq_getElem h2]
      simp only [List.getD, List.getElem?_eq_getElem h2, Option.getD_some] at h1
      rw [h1]; simp
    · rw [List.getElem?_eq_none (by omega), List.getElem?_eq_none (by rw [rowsOfR_len]; exact hi)]
  · obtain ⟨N, h1, h2⟩ := hq y hy
    have h3 := goodR_at h hy
    rw [h1] at h3
    show (X.getD y 0).toNat < 1048576 ∧ ∀ x, x < 20 → ((X.getD y 0).toNat).testBit x = true → shB x y = true
    rw [h1]
    exact ⟨by simpa using h2, by simpa using (goodRow_bits h2).1 h3⟩
theorem whole_good {F : Nat → Nat} (hF : GoodF F) {x y n : Nat} (h : y + n ≤ 24) : whole (cellF F) x y n = whole (tb F) x y n := by
  rw [Bool.eq_iff_iff, whole_iff, whole_iff]
  constructor
  · intro hw j hj i hi
    have := hw j hj i hi
    unfold cellF at this
    simp only [Bool.and_eq_true] at this
    exact this.2
  · intro hw j hj i hi
    have h1 := hw j hj i hi
    unfold tb at h1
    obtain ⟨g1, g2⟩ := hF (y + j) (by omega)
    have h20 := bit20 g1 h1
    unfold cellF
    rw [shZ_nat h20 (by omega), g2 _ h20 h1, h1]; rfl
/-- The bits of n columns from x on. -/
def maskN (n x : Nat) : Nat := 2 ^ x * (2 ^ n - 1)
theorem maskN_bit (n x k : Nat) : (maskN n x).testBit k = decide (x ≤ k ∧ k < x + n) := by
  unfold maskN
  rw [Nat.testBit_two_pow_mul, Nat.testBit_two_pow_sub_one]
  by_cases h : x ≤ k
  · simp [h]
    omega
  · simp [h]
theorem maskN_lt {n x : Nat} (hn : n ≤ 8) (hx : x ≤ 20) : maskN n x < 1099511627776 := by
  have h1 : 2 ^ x ≤ 2 ^ 20 := Nat.pow_le_pow_right (by omega) hx
  have h2 : 2 ^ n ≤ 2 ^ 8 := Nat.pow_le_pow_right (by omega) hn
  have h3 : 2 ^ x * (2 ^ n - 1) ≤ 2 ^ 20 * 255 := Nat.mul_le_mul h1 (by omega)
  unfold maskN
  omega
theorem lessN_zero {a b : Nat} (ha : a < 1099511627776) (hb : b < 1099511627776) : lessN a b = 0 ↔ ∀ k, a.testBit k = true → b.testBit k = true := by
  constructor
  · intro h k hk
    have := lessN_bit hb ha k
    rw [h, hk] at this
    simpa using this
  · intro h
    apply Nat.eq_of_testBit_eq
    intro k
    rw [lessN_bit hb ha]
    cases hk : a.testBit k
    · simp
    · simp [h k hk]
/-- The row has all columns of the box. -/
theorem row_whole {F : Nat → Nat} {n x j : Nat} (hn : n ≤ 8) (hx : x ≤ 20) (hF : F j < 1048576) : lessN (maskN n x) (F j) = 0 ↔ ∀ i, i < n → (F j).testBit (x + i) = true := by
  rw [lessN_zero (maskN_lt hn hx) (by omega)]
  constructor
  · intro h i hi
    exact h (x + i) (by rw [maskN_bit]; simp; omega)
  · intro h k hk
    rw [maskN_bit] at hk
    simp at hk
    have := h (k - x) (by omega)
    rwa [show x + (k - x) = k by omega] at this

/-- The rows from y on, k of them, without the bits of a mask. -/
def clearF (F : Nat → Nat) (M y k : Nat) : Nat → Nat := fun j => if y ≤ j ∧ j < y + k then lessN (F j) M else F j
theorem clearF_zero (F : Nat → Nat) (M y : Nat) : clearF F M y 0 = F := by
  funext j; unfold clearF; rw [if_neg (by omega)]
theorem clearF_good {F : Nat → Nat} (hF : GoodF F) {M : Nat} (hM : M < 1099511627776) (y k : Nat) : GoodF (clearF F M y k) := fun j hj => by
  obtain ⟨h1, h2⟩ := hF j hj
  unfold clearF
  split
  · refine ⟨lessN_lt h1, fun x hx hb => h2 x hx ?_⟩
    rw [lessN_bit hM (by omega)] at hb
    simp at hb; exact hb.1
  · exact ⟨h1, h2⟩
theorem clearF_sub {F : Nat → Nat} {M y k x j : Nat} (hM : M < 1099511627776) (hF : F j < 1048576) (h : tb (clearF F M y k) x j = true) : tb F x j = true := by
  unfold tb clearF at *
  split at h
  · rw [lessN_bit hM (by omega)] at h
    simp at h; exact h.1
  · exact h
theorem rows_set (F : Nat → Nat) {j : Nat} (hj : j < 24) (v : Nat) : (rowsOfR F).set j (v : Int) = rowsOfR (fun i => if i = j then v else F i) := by
  apply List.ext_getElem?
  intro i
  rw [List.getElem?_set]
  rcases Nat.lt_or_ge i 24 with hi | hi
  · rw [rowsOfR_at _ hi, rowsOfR_at _ hi]
    by_cases e : j = i
    · subst e
      rw [if_pos rfl, if_pos (by rw [rowsOfR_len]; exact hj), if_pos rfl]
    · rw [if_neg e, if_neg (fun q => e q.symm)]
  · rw [if_neg (by omega), List.getElem?_eq_none (by rw [rowsOfR_len]; omega), List.getElem?_eq_none (by rw [rowsOfR_len]; omega)]
theorem clearF_set (F : Nat → Nat) (M y : Nat) {k : Nat} (hk : y + k < 24) : (rowsOfR (clearF F M y k)).set (y + k) ((lessN (F (y + k)) M : Nat) : Int) = rowsOfR (clearF F M y (k + 1)) := by
  rw [rows_set _ hk]
  congr 1
  funext i
  unfold clearF
  by_cases e : i = y + k
  · subst e
    rw [if_pos rfl, if_pos (by omega)]
  · rw [if_neg e]
    by_cases h : y ≤ i ∧ i < y + k
    · rw [if_pos h, if_pos (by omega)]
    · rw [if_neg h, if_neg (by omega)]
theorem clearF_at (F : Nat → Nat) (M y k : Nat) : clearF F M y k (y + k) = F (y + k) := by
  unfold clearF; rw [if_neg (by omega)]

/-- A box is put at a cell, if there is room and fewer than m are there. -/
def takeS (n m y x : Nat) (s : (Nat → Nat) × List Bx) : (Nat → Nat) × List Bx :=
  if s.2.length < m ∧ whole (tb s.1) x y n = true then (clearF s.1 (maskN n x) y n, s.2 ++ [⟨x, y, n⟩]) else s
/-- The first k cells of row y are looked at. -/
def rowS (n m y : Nat) : Nat → (Nat → Nat) × List Bx → (Nat → Nat) × List Bx
  | 0, s => s
  | k + 1, s => takeS n m y k (rowS n m y k s)
/-- The first y rows are looked at. -/
def allS (n m : Nat) (V : Nat → Nat) : Nat → (Nat → Nat) × List Bx
  | 0 => (V, [])
  | y + 1 => rowS n m y (21 - n) (allS n m V y)
/-- The boxes with which a region is filled. -/
def fillL (V : Nat → Nat) (n m : Nat) : List Bx := (allS n m V (25 - n)).2
theorem takeS_full {n m y x : Nat} {s : (Nat → Nat) × List Bx} (h : m ≤ s.2.length) : takeS n m y x s = s := by
  unfold takeS; rw [if_neg (by omega)]
theorem takeS_no {n m y x : Nat} {s : (Nat → Nat) × List Bx} (h : whole (tb s.1) x y n = false) : takeS n m y x s = s := by
  unfold takeS; rw [if_neg (by rw [h]; simp)]
theorem takeS_yes {n m y x : Nat} {s : (Nat → Nat) × List Bx} (hl : s.2.length < m) (h : whole (tb s.1) x y n = true) : takeS n m y x s = (clearF s.1 (maskN n x) y n, s.2 ++ [⟨x, y, n⟩]) := by
  unfold takeS; rw [if_pos ⟨hl, h⟩]
theorem rowS_full {n m y k : Nat} {s : (Nat → Nat) × List Bx} (h : m ≤ (rowS n m y k s).2.length) : ∀ d, rowS n m y (k + d) s = rowS n m y k s
  | 0 => rfl
  | d + 1 => by
    show takeS n m y (k + d) (rowS n m y (k + d) s) = _
    rw [rowS_full h d, takeS_full h]
theorem rowS_skip {n m y k : Nat} {s : (Nat → Nat) × List Bx} : ∀ d, (∀ x, k ≤ x → x < k + d → whole (tb (rowS n m y k s).1) x y n = false) → rowS n m y (k + d) s = rowS n m y k s
  | 0, _ => rfl
  | d + 1, h => by
    show takeS n m y (k + d) (rowS n m y (k + d) s) = _
    rw [rowS_skip d (fun x h1 h2 => h x h1 (by omega)), takeS_no (h (k + d) (by omega) (by omega))]
/-- What holds of what is left and what was put. -/
def OkS (V : Nat → Nat) (n m : Nat) (s : (Nat → Nat) × List Bx) : Prop :=
  GoodF s.1 ∧ s.2.length ≤ m ∧ (∀ i j, j < 24 → tb s.1 i j = true → tb V i j = true) ∧
  (∀ b ∈ s.2, ∃ x y : Nat, b = ⟨x, y, n⟩ ∧ x + n ≤ 20 ∧ y + n ≤ 24 ∧ whole (tb V) x y n = true ∧ ∀ i j, i < n → j < n → tb s.1 (x + i) (y + j) = false)
theorem takeS_ok {V : Nat → Nat} {n m y x : Nat} {s : (Nat → Nat) × List Bx} (hn : n ≤ 8) (hx : x + n ≤ 20) (hy : y + n ≤ 24) (h : OkS V n m s) : OkS V n m (takeS n m y x s) := by
  unfold takeS
  split
  · rename_i hc
    obtain ⟨h1, h2, h3, h4⟩ := h
    have hM := maskN_lt hn (show x ≤ 20 by omega)
    refine ⟨clearF_good h1 hM y n, ?_, fun i j hj hb => h3 i j hj (clearF_sub hM (h1 j hj).1 hb), fun b hb => ?_⟩
    · show (s.2 ++ [_]).length ≤ m
      rw [List.length_append, List.length_singleton]; omega
    · rcases List.mem_append.1 hb with hb | hb
      · obtain ⟨a, c, e, g1, g2, g3, g4⟩ := h4 b hb
        refine ⟨a, c, e, g1, g2, g3, fun i j hi hj => ?_⟩
        cases hq : tb (clearF s.1 (maskN n x) y n) (a + i) (c + j)
        · rfl
        · exact absurd (g4 i j hi hj) (by rw [clearF_sub hM (h1 _ (by omega)).1 hq]; decide)
      · rw [List.mem_singleton] at hb
        refine ⟨x, y, hb, hx, hy, ?_, fun i j hi hj => ?_⟩
        · rw [whole_iff]
          intro j hj i hi
          exact h3 _ _ (by omega) (whole_iff.1 hc.2 j hj i hi)
        · show (clearF s.1 (maskN n x) y n (y + j)).testBit (x + i) = false
          unfold clearF
          rw [if_pos (by omega), lessN_bit hM (by have := (h1 (y + j) (by omega)).1; omega), maskN_bit]
          simp; intro _; omega
  · exact h
theorem rowS_ok {V : Nat → Nat} {n m y : Nat} {s : (Nat → Nat) × List Bx} (hn : n ≤ 8) (hy : y + n ≤ 24) (h : OkS V n m s) : ∀ k, k + n ≤ 21 → OkS V n m (rowS n m y k s)
  | 0, _ => h
  | k + 1, hk => takeS_ok hn (by omega) hy (rowS_ok hn hy h k (by omega))
theorem allS_ok {V : Nat → Nat} {n m : Nat} (hn : n ≤ 8) (hV : GoodF V) : ∀ y, y + n ≤ 25 → OkS V n m (allS n m V y)
  | 0, _ => ⟨hV, Nat.zero_le _, fun _ _ _ h => h, fun b hb => by simp [allS] at hb⟩
  | y + 1, hy => rowS_ok hn (by omega) (allS_ok hn hV y (by omega)) _ (by omega)
theorem fillL_le {V : Nat → Nat} {n m : Nat} (hn : n ≤ 8) (hV : GoodF V) : (fillL V n m).length ≤ m := (allS_ok hn hV (25 - n) (by omega)).2.1

/-- The program's columns: where all of n columns have a cell in all of n rows. -/
def commN (F : Nat → Nat) (y : Nat) : Nat → Nat
  | 0 => F y
  | k + 1 => commN F y k &&& F (y + (k + 1))
def colN (c : Nat) : Nat → Nat
  | 0 => c
  | k + 1 => colN c k &&& (c / 2 ^ (k + 1))
theorem commN_bit (F : Nat → Nat) (y x : Nat) : ∀ k, (commN F y k).testBit x = true ↔ ∀ j, j < k + 1 → (F (y + j)).testBit x = true
  | 0 => by
    constructor
    · intro h j hj; obtain rfl : j = 0 := by omega
      exact h
    · intro h; exact h 0 (by omega)
  | k + 1 => by
    show (commN F y k &&& F (y + (k + 1))).testBit x = true ↔ _
    rw [Nat.testBit_and, Bool.and_eq_true, commN_bit F y x k]
    constructor
    · rintro ⟨h1, h2⟩ j hj
      by_cases e : j = k + 1
      · subst e; exact h2
      · exact h1 j (by omega)
    · intro h
      exact ⟨fun j hj => h j (by omega), h (k + 1) (by omega)⟩
theorem colN_bit (c x : Nat) : ∀ k, (colN c k).testBit x = true ↔ ∀ i, i < k + 1 → c.testBit (x + i) = true
  | 0 => by
    constructor
    · intro h i hi; obtain rfl : i = 0 := by omega
      exact h
    · intro h; exact h 0 (by omega)
  | k + 1 => by
    show (colN c k &&& (c / 2 ^ (k + 1))).testBit x = true ↔ _
    rw [Nat.testBit_and, Bool.and_eq_true, colN_bit c x k, Nat.testBit_div_two_pow]
    constructor
    · rintro ⟨h1, h2⟩ i hi
      by_cases e : i = k + 1
      · subst e; first | exact h2 | rwa [Nat.add_comm]
      · exact h1 i (by omega)
    · intro h
      exact ⟨fun i hi => h i (by omega), by first | exact h (k + 1) (by omega) | (rw [Nat.add_comm]; exact h (k + 1) (by omega))⟩
theorem commN_lt {F : Nat → Nat} {y : Nat} (h : F y < 1048576) : ∀ k, commN F y k < 1048576
  | 0 => h
  | k + 1 => by
    have := commN_lt h k
    have h2 : commN F y k &&& F (y + (k + 1)) ≤ commN F y k := Nat.and_le_left
    show commN F y k &&& F (y + (k + 1)) < _
    omega
theorem colN_lt {c : Nat} (h : c < 1048576) : ∀ k, colN c k < 1048576
  | 0 => h
  | k + 1 => by
    have := colN_lt h k
    have h2 : colN c k &&& (c / 2 ^ (k + 1)) ≤ colN c k := Nat.and_le_left
    show colN c k &&& (c / 2 ^ (k + 1)) < _
    omega
def colsN (F : Nat → Nat) (y n : Nat) : Nat := colN (commN F y (n - 1)) (n - 1)
theorem colsN_bit (F : Nat → Nat) {y n x : Nat} (hn : 1 ≤ n) : (colsN F y n).testBit x = whole (tb F) x y n := by
  rw [Bool.eq_iff_iff, whole_iff]
  unfold colsN
  rw [colN_bit]
  constructor
  · intro h j hj i hi
    exact (commN_bit F y (x + i) (n - 1)).1 (h i (by omega)) j (by omega)
  · intro h i hi
    exact (commN_bit F y (x + i) (n - 1)).2 fun j hj => h j (by omega) i (by omega)
theorem colsN_lt {F : Nat → Nat} {y : Nat} (h : F y < 1048576) (n : Nat) : colsN F y n < 1048576 := colN_lt (commN_lt h _) _
/-- Where the program stands in a row: nothing fits further left. -/
def AtRow (n m y : Nat) (s0 s : (Nat → Nat) × List Bx) : Prop := ∃ k, k + n ≤ 21 ∧ s = rowS n m y k s0 ∧ ∀ x, x < k → whole (tb s.1) x y n = false
theorem AtRow.start (n m y : Nat) (s : (Nat → Nat) × List Bx) (hn : n ≤ 8) : AtRow n m y s s := ⟨0, by omega, rfl, fun x hx => by omega⟩
theorem AtRow.full {n m y : Nat} {s0 s : (Nat → Nat) × List Bx} (h : AtRow n m y s0 s) (hl : m ≤ s.2.length) : s = rowS n m y (21 - n) s0 := by
  obtain ⟨k, hk, rfl, _⟩ := h
  have := rowS_full hl (21 - n - k)
  rw [show k + (21 - n - k) = 21 - n by omega] at this
  exact this.symm
theorem AtRow.none {n m y : Nat} {s0 s : (Nat → Nat) × List Bx} (h : AtRow n m y s0 s) (hn : 1 ≤ n) (h0 : colsN s.1 y n = 0) : s = rowS n m y (21 - n) s0 := by
  obtain ⟨k, hk, rfl, _⟩ := h
  have := rowS_skip (n := n) (m := m) (y := y) (k := k) (s := s0) (21 - n - k) (fun x _ _ => by rw [← colsN_bit _ hn, h0]; simp)
  rw [show k + (21 - n - k) = 21 - n by omega] at this
  exact this.symm
theorem AtRow.step {n m y x : Nat} {s0 s : (Nat → Nat) × List Bx} (h : AtRow n m y s0 s) (hn : 1 ≤ n) (hn8 : n ≤ 8) (hy : y + n ≤ 24) (hg : GoodF s.1) (hl : s.2.length < m) (hx : (colsN s.1 y n).testBit x = true) (hmin : ∀ i, i < x → (colsN s.1 y n).testBit i = false) :
    x + n ≤ 20 ∧ AtRow n m y s0 (clearF s.1 (maskN n x) y n, s.2 ++ [⟨x, y, n⟩]) := by
  obtain ⟨k, hk, rfl, hno⟩ := h
  have hw : whole (tb (rowS n m y k s0).1) x y n = true := by rw [← colsN_bit _ hn]; exact hx
  have hxn : x + n ≤ 20 := by
    have := whole_iff.1 hw 0 (by omega) (n - 1) (by omega)
    have := bit20 (hg y (by omega)).1 this
    omega
  have hkx : k ≤ x := by
    rcases Nat.lt_or_ge x k with h1 | h1
    · rw [hno x h1] at hw; cases hw
    · exact h1
  have hM := maskN_lt hn8 (show x ≤ 20 by omega)
  refine ⟨hxn, x + 1, by omega, ?_, fun i hi => ?_⟩
  · have h1 := rowS_skip (n := n) (m := m) (y := y) (k := k) (s := s0) (x - k) (fun i h1 h2 => by rw [← colsN_bit _ hn]; exact hmin i (by omega))
    rw [show k + (x - k) = x by omega] at h1
    show _ = takeS n m y x (rowS n m y x s0)
    rw [h1, takeS_yes hl hw]
  · cases hq : whole (tb (clearF (rowS n m y k s0).1 (maskN n x) y n)) i y n
    · rfl
    · rw [whole_iff] at hq
      by_cases e : i = x
      · subst e
        have h1 := hq 0 (by omega) 0 (by omega)
        unfold tb clearF at h1
        rw [if_pos (by omega), lessN_bit hM (by have := (hg (y + 0) (by omega)).1; omega), maskN_bit] at h1
        simp at h1
        omega
      · have h1 : whole (tb (rowS n m y k s0).1) i y n = true := by
          rw [whole_iff]
          intro j hj i' hi'
          exact clearF_sub hM (hg _ (by omega)).1 (hq j hj i' hi')
        rw [← colsN_bit _ hn, hmin i (by omega)] at h1; cases h1
/-- The largest size with so many boxes, from s downwards. -/
def largeS (V : Nat → Nat) (c : Nat) : Nat → Option (List Bx)
  | 0 => none
  | s + 1 => if (fillL V (s + 1) c).length = c then some (fillL V (s + 1) c) else largeS V c s
end Go.Proofs.YthapidnjioindaaDoor
namespace Go.Proofs.YthapidnjioindaaDoor
open Go.RowKit

theorem ownsRow_lowB {w : World} {b b2 : Nat} {e : TypeId} {size : Nat} {v : Value} {n : Nat} {xs : List Value} (h : w.ownsRow b e size v n xs) (hb : b2 ≤ b) : w.ownsRow b2 e size v n xs := by
  obtain ⟨h1, h2⟩ := h
  refine ⟨h1, ?_⟩
  rcases h2 with h2 | ⟨g, cap, cur, hv, hg, r⟩
  · exact .inl h2
  · exact .inr ⟨g, cap, cur, hv, by omega, r⟩
def bxcell (F : Bx) : List Value := [.int .i64 F.x, .int .i64 F.y, .int .i64 F.n]
def bcells (X : List Bx) : List Value := X.flatMap bxcell
theorem bcells_len : ∀ X : List Bx, (bcells X).length = X.length * 3
  | [] => rfl
  | F :: X => by
    show (bxcell F ++ bcells X).length = (X.length + 1) * 3
    rw [List.length_append, bcells_len X]; simp [bxcell]; omega
theorem bcells_app (X : List Bx) (F : Bx) : bcells (X ++ [F]) = bcells X ++ bxcell F := by simp [bcells]
theorem infoBx : (Tryd.prog.info? 36).map (fun i => (i.zero, i.size, i.bytes)) = some (some (.agg #[.int .i64 0, .int .i64 0, .int .i64 0]), 3, 24) := by kernel_rfl
/-- The slice owns a row from block B on that holds these boxes (or is nil and holds none). -/
def OwnBx (w : World) (B : Nat) (v : Value) (X : List Bx) : Prop := w.ownsRow B 36 3 v X.length (bcells X)
theorem OwnBx.below {w w' : World} {B : Nat} {v : Value} {X : List Bx} (h : OwnBx w B v X) (hb : Below w.heap.size w w') : OwnBx w' B v X :=
  World.ownsRow.kept (row := none) h ⟨hb.os, hb.tape, hb.output, hb.size, fun i hi _ => hb.block i hi⟩ (by cases h : v.ownBlock <;> simp)
theorem OwnBx.low {w : World} {B B2 : Nat} {v : Value} {X : List Bx} (h : OwnBx w B v X) (hb : B2 ≤ B) : OwnBx w B2 v X := ownsRow_lowB h hb
theorem OwnBx.slice {w : World} {B : Nat} {v : Value} {X : List Bx} (h : OwnBx w B v X) : ∃ a cap, v = .slice a X.length cap := by
  rcases h.2 with ⟨h0, h1⟩ | ⟨g, cap, cur, hv, hg, r⟩
  · have h2 := h.1
    rw [h1] at h2
    have h3 : X.length = 0 := by simp at h2; omega
    exact ⟨none, 0, by rw [h3]; exact h0⟩
  · exact ⟨_, cap, hv⟩
theorem ownBx_nil (w : World) (B : Nat) : OwnBx w B (.slice none 0 0) [] := World.ownsRow_nil _ _ _ _
def AnsBx (w : World) (X : List Bx) (ok : Bool) (e : Ending) (w' : World) : Prop :=
  ∃ a cap, e = .returned (.tuple #[.slice a X.length cap, .bool ok]) ∧ OwnBx w' w.heap.size (.slice a X.length cap) X ∧ Below w.heap.size w w'
theorem app_bx {w : World} {B : Nat} {v : Value} {n : Nat} {X Y : List Bx} {F : Bx} (h : w.ownsRow B 36 3 v n (bcells X ++ [.int .i64 F.x, .int .i64 F.y, .int .i64 F.n])) (e : Y = X ++ [F]) (hn : n = X.length + 1) : OwnBx w B v Y := by
  subst e
  unfold OwnBx
  rw [bcells_app, List.length_append, List.length_singleton, ← hn]
  exact h
theorem cell_newB (W : World) (L : List Value) (t : TypeId) : ∀ j u, L[j]? = some u → (W.alloc (.cells L.toArray t (0, 0))).cell? ((⟨W.heap.size, 0, none⟩ : Addr).add j) = some u := fun j u hj => by
  have e : (⟨W.heap.size, 0, none⟩ : Addr).add j = ⟨W.heap.size, j, none⟩ := by unfold Addr.add; split <;> simp_all
  rw [e]
  exact ((BoxF.new W L t).at j).trans hj
theorem bcells_at : ∀ {X : List Bx} {k : Nat} {F : Bx}, X[k]? = some F → (bcells X)[k * 3]? = some (.int .i64 F.x) ∧ (bcells X)[k * 3 + 1]? = some (.int .i64 F.y) ∧ (bcells X)[k * 3 + 2]? = some (.int .i64 F.n)
  | [], _, _, h => by simp at h
  | G :: X, 0, F, h => by
    simp at h
    subst h
    exact ⟨rfl, rfl, rfl⟩
  | G :: X, k + 1, F, h => by
    have ih := bcells_at (X := X) (k := k) (F := F) (by simpa using h)
    have e : bcells (G :: X) = bxcell G ++ bcells X := rfl
    have q : ∀ j, (bcells (G :: X))[j + 3]? = (bcells X)[j]? := fun j => by
      rw [e, List.getElem?_append_right (by simp [bxcell])]; simp [bxcell]
    have e0 : (k + 1) * 3 = k * 3 + 3 := by omega
    have e1 : (k + 1) * 3 + 1 = (k * 3 + 1) + 3 := by omega
    have e2 : (k + 1) * 3 + 2 = (k * 3 + 2) + 3 := by omega
    rw [e0, q, show k * 3 + 3 + 1 = (k * 3 + 1) + 3 by omega, q, show k * 3 + 3 + 2 = (k * 3 + 2) + 3 by omega, q]
    exact ih
/-- The slice of address a reads as these boxes; its cells are old ones. -/
def RdBx (w : World) (a : Option Addr) (n : Nat) (X : List Bx) : Prop :=
  X.length = n ∧ (0 < n → ∃ b o, a = some ⟨b, o, none⟩ ∧ b < w.heap.size ∧ ∀ k F, X[k]? = some F → w.cell? ⟨b, o + k * 3, none⟩ = some (.int .i64 F.x) ∧ w.cell? ⟨b, o + k * 3 + 1, none⟩ = some (.int .i64 F.y) ∧ w.cell? ⟨b, o + k * 3 + 2, none⟩ = some (.int .i64 F.n))
theorem RdBx.below {w w' : World} {a : Option Addr} {n : Nat} {X : List Bx} (h : RdBx w a n X) (hb : Below w.heap.size w w') : RdBx w' a n X :=
  ⟨h.1, fun hn => by
    obtain ⟨b, o, e, hlt, hc⟩ := h.2 hn
    exact ⟨b, o, e, Nat.lt_of_lt_of_le hlt hb.size, fun k F hk => ⟨(hb.cell (p := ⟨b, o + k * 3, none⟩) hlt).trans (hc k F hk).1, (hb.cell (p := ⟨b, o + k * 3 + 1, none⟩) hlt).trans (hc k F hk).2.1, (hb.cell (p := ⟨b, o + k * 3 + 2, none⟩) hlt).trans (hc k F hk).2.2⟩⟩⟩
theorem OwnBx.shape {w : World} {B cap : Nat} {a : Option Addr} {X : List Bx} (h : OwnBx w B (.slice a X.length cap) X) : (a = none ∧ cap = 0 ∧ X = []) ∨ ∃ g, a = some ⟨g, 0, none⟩ ∧ B ≤ g ∧ g < w.heap.size := by
  have hlt := World.ownsRow.lt h
  rcases h.2 with ⟨h1, h2⟩ | ⟨g, cp, cur, h1, h2, h3, _⟩
  · simp only [Value.slice.injEq] at h1
    exact .inl ⟨h1.1, h1.2.2, List.eq_nil_of_length_eq_zero h1.2.1⟩
  · simp only [Value.slice.injEq] at h1
    obtain ⟨rfl, _, _⟩ := h1
    exact .inr ⟨g, rfl, h2, (hlt g rfl).2⟩
theorem OwnBx.rd {w : World} {B cap : Nat} {a : Option Addr} {X : List Bx} (h : OwnBx w B (.slice a X.length cap) X) : RdBx w a X.length X := by
  refine ⟨rfl, fun hn => ?_⟩
  rcases h.shape with ⟨_, _, rfl⟩ | ⟨g, rfl, _, hg⟩
  · simp at hn
  · refine ⟨g, 0, rfl, hg, fun k F hk => ?_⟩
    have hkl : k < X.length := (List.getElem?_eq_some_iff.1 hk).1
    obtain ⟨c0, c1, c2⟩ := bcells_at hk
    refine ⟨?_, ?_, ?_⟩
    · rw [Nat.zero_add]; exact (World.ownsRow.cellAt h (k * 3) (by omega)).trans c0
    · rw [Nat.zero_add]; exact (World.ownsRow.cellAt h (k * 3 + 1) (by omega)).trans c1
    · rw [Nat.zero_add]; exact (World.ownsRow.cellAt h (k * 3 + 2) (by omega)).trans c2
theorem atB_of_lt {X : List Bx} {k n : Nat} (hX : X.length = n) (hk : k < n) : ∃ F, X[k]? = some F := ⟨X[k]'(by omega), List.getElem?_eq_getElem (by omega)⟩

theorem rdBx_of {w : World} {B n cap : Nat} {a : Option Addr} {X : List Bx} (hX : X.length = n) (h : OwnBx w B (.slice a n cap) X) : RdBx w a n X := by
  subst hX; exact h.rd
theorem rdBx_grown {w0 w w' : World} {a : Option Addr} {n : Nat} {X : List Bx} {row : Option Nat} (h0 : RdBx w0 a n X) (h : RdBx w a n X) (hg : w.grownBy w' row) (hne : ∀ q, row = some q → w0.heap.size ≤ q) : RdBx w' a n X :=
  ⟨h.1, fun hn => by
    obtain ⟨b0, o0, e0, hlt0, _⟩ := h0.2 hn
    obtain ⟨b, o, e, hlt, hc⟩ := h.2 hn
    rw [e0] at e
    cases e
    have q : some b0 ≠ row := fun e => by have := hne b0 e.symm; omega
    exact ⟨b0, o0, e0, Nat.lt_of_lt_of_le hlt hg.size, fun k F hk => ⟨hg.cell (hc k F hk).1 q, hg.cell (hc k F hk).2.1 q, hg.cell (hc k F hk).2.2 q⟩⟩⟩
theorem eqBox_same (F : Bx) (w : World) :
    Calls Tryd.prog 66 #[.agg #[.int .i64 F.x, .int .i64 F.y, .int .i64 F.n], .agg #[.int .i64 F.x, .int .i64 F.y, .int .i64 F.n]] w fun e w' => e = .returned (.bool true) ∧ Below w.heap.size w w' := by
  obtain ⟨p, u, l⟩ := F
  have e1 : (p != p) = false := by simp
  have e2 : (u != u) = false := by simp
  have e3 : (l != l) = false := by simp
  go_enter Tryd.func66, Tryd.ntmps66
  go_wp2_with fail
  go_ret
  exact ⟨rfl, ((Below.refl _ _).alloc (Nat.le_refl _) _).alloc (by simp) _⟩
set_option maxRecDepth 100000 in
set_option maxHeartbeats 8000000 in
theorem eqBoxS_true (X : List Bx) (n : Nat) (a1 a2 : Option Addr) (c1 c2 : Nat) (w : World) (h1 : RdBx w a1 n X) (h2 : RdBx w a2 n X) (hn : n ≤ 1048577) :
    Calls Tryd.prog 22 #[.slice a1 n c1, .slice a2 n c2] w fun e w' => e = .returned (.bool true) ∧ Below w.heap.size w w' := by
  have en : ((n : Int) != (n : Int)) = false := by simp
  rcases Nat.eq_zero_or_pos n with h0 | h0
  · subst h0
    clear h1 h2
    go_enter Tryd.func22, Tryd.ntmps22
    go_wp2_with fail
    refine wp_loop_rounds 1 ?_
    rw [rounds_succ]
    go_wp2_with fail
    go_ret
    exact ⟨rfl, Below.refl _ _⟩
  · obtain ⟨b1, o1, rfl, hb1, hc1⟩ := h1.2 h0
    obtain ⟨b2, o2, rfl, hb2, hc2⟩ := h2.2 h0
    have HL := Lib.hid h1.1
    have H1 := Lib.hid hc1
    have H2 := Lib.hid hc2
    have CQ := Lib.hid (fun (F : Bx) W => eqBox_same F W)
    clear h1 h2 hc1 hc2
    go_enter Tryd.func22, Tryd.ntmps22
    go_wp2_with fail
    go_loopw [5] (fun i wr => ∃ k : Nat, k ≤ n ∧ i = .int .i64 k ∧ Below w.heap.size w wr) (fun i _ => n - (intOf i).toNat)
    case atStart => exact ⟨0, Nat.zero_le _, rfl, Below.refl _ _⟩
    case round =>
      obtain ⟨k, hk, rfl, hb⟩ := hrel
      by_cases hlt : k < n
      · obtain ⟨F, hF⟩ := atB_of_lt HL.out hlt
        obtain ⟨x0, x1, x2⟩ := H1.out k F hF
        obtain ⟨y0, y1, y2⟩ := H2.out k F hF
        have x0 := (hb.cell (p := ⟨b1, o1 + k * 3, none⟩) hb1).trans x0
        have x1 := (hb.cell (p := ⟨b1, o1 + k * 3 + 1, none⟩) hb1).trans x1
        have x2 := (hb.cell (p := ⟨b1, o1 + k * 3 + 2, none⟩) hb1).trans x2
        have y0 := (hb.cell (p := ⟨b2, o2 + k * 3, none⟩) hb2).trans y0
        have y1 := (hb.cell (p := ⟨b2, o2 + k * 3 + 1, none⟩) hb2).trans y1
        have y2 := (hb.cell (p := ⟨b2, o2 + k * 3 + 2, none⟩) hb2).trans y2
        have HB := Lib.hid hb
        clear hF hb
        go_wp2_with fail
        go_region_with (first
          | (go_at_call 66; (with_reducible refine (CQ.out F _).mono ?_); rintro e w2 ⟨rfl, g2⟩; have hS : Below wr.heap.size wr w2 := ⟨g2.os, g2.tape, g2.output, g2.size, g2.block⟩; have HB2 := Lib.hid (HB.out.trans (hS.mono HB.out.size)); clear hS g2))
        all_goals
          clear x0 x1 x2 y0 y1 y2
          go_wp2_with fail
          go_roundw
          case rel => exact ⟨k + 1, by omega, by go_num, HB2.out⟩
          case measure => simp [intOf]; omega
      · have HB := Lib.hid hb
        clear hb
        go_wp2_with fail
        go_ret
        exact ⟨rfl, HB.out⟩
set_option maxRecDepth 100000 in
set_option maxHeartbeats 8000000 in
theorem markB_row (xs : List Value) (n g cap B k0 : Nat) (w : World) (hown : w.ownsRow B 36 3 (.slice (some ⟨g, 0, none⟩) n cap) n xs) (hn : n ≤ 1000) (hk0 : k0 ≤ 5000) :
    Calls Tryd.prog 25 #[.slice (some ⟨g, 0, none⟩) n cap, .int .i64 (k0 : Int)] w fun e w' => e = .returned (.int .i64 ((k0 : Int) + (n : Int) * 3)) ∧ w'.ownsRow B 36 3 (.slice (some ⟨g, 0, none⟩) n cap) n (markedI k0 xs (n * 3)) ∧ w.grownBy w' (some g) := by
  have hlen : xs.length = n * 3 := by have := hown.1; omega
  go_enter Tryd.func25, Tryd.ntmps25
  go_wp2_with fail
  go_loopg [1, 5] n (fun gh kk i wr => ∃ j : Nat, j + gh = n ∧ i = .int .i64 j ∧ kk = .int .i64 ((k0 : Int) + (j : Int) * 3) ∧ wr.ownsRow B 36 3 (.slice (some ⟨g, 0, none⟩) n cap) n (markedI k0 xs (j * 3)) ∧ w.grownBy wr (some g))
  case atStart => exact ⟨0, by omega, rfl, by simp, by rw [Nat.zero_mul, markedI_zero]; exact hown, World.grownBy.refl _ _⟩
  case round =>
    obtain ⟨j, hj, rfl, rfl, ho, hgr⟩ := hrel
    by_cases hlt : j < n
    · obtain ⟨gh, rfl⟩ : ∃ gh, gk = gh + 1 := ⟨gk - 1, by omega⟩
      have v0 : ((k0 + j * 3 : Nat) : Int) = (k0 : Int) + (j : Int) * 3 := by omega
      have v1 : ((k0 + (j * 3 + 1) : Nat) : Int) = (k0 : Int) + (j : Int) * 3 + 1 := by omega
      have v2 : ((k0 + (j * 3 + 2) : Nat) : Int) = (k0 : Int) + (j : Int) * 3 + 1 + 1 := by omega
      have s0 := markedI_set (k0 := k0) (xs := xs) (j := j * 3) (by omega)
      have s1 := markedI_set (k0 := k0) (xs := xs) (j := j * 3 + 1) (by omega)
      have s2 := markedI_set (k0 := k0) (xs := xs) (j := j * 3 + 2) (by omega)
      rw [v0] at s0
      rw [v1] at s1
      rw [v2] at s2
      have m0 := ho.stored (j * 3) (.int .i64 ((k0 : Int) + (j : Int) * 3))
      rw [s0] at m0
      have m1 := m0.1.stored (j * 3 + 1) (.int .i64 ((k0 : Int) + (j : Int) * 3 + 1))
      rw [s1] at m1
      have m2 := m1.1.stored (j * 3 + 2) (.int .i64 ((k0 : Int) + (j : Int) * 3 + 1 + 1))
      rw [s2] at m2
      obtain ⟨u0, hu0⟩ := markedI_at (k0 := k0) (xs := xs) (j := j * 3) (by omega)
      obtain ⟨u1, hu1⟩ := markedI_at (k0 := k0) (xs := xs) (j := j * 3 + 1) (by omega)
      obtain ⟨u2, hu2⟩ := markedI_at (k0 := k0) (xs := xs) (j := j * 3 + 2) (by omega)
      have hc0 := (ho.cellAt (j * 3) (by omega)).trans hu0
      have hf0 := ho.frozenAt (j * 3)
      have hc1 := (m0.1.cellAt (j * 3 + 1) (by omega)).trans hu1
      have hf1 := m0.1.frozenAt (j * 3 + 1)
      have hc2 := (m1.1.cellAt (j * 3 + 2) (by omega)).trans hu2
      have hf2 := m1.1.frozenAt (j * 3 + 2)
      have HM := Lib.hid (And.intro m2.1 (hgr.trans (m0.2.trans (m1.2.trans m2.2))))
      clear s0 s1 s2 m0 m1 m2 hu0 hu1 hu2 v0 v1 v2 hlen hown ho hgr
      go_wp2_with fail
      go_roundg gh
      case measure => omega
      case rel => exact ⟨j + 1, by omega, by go_num, by go_num, by rw [show (j + 1) * 3 = j * 3 + 2 + 1 by omega]; exact HM.out.1, HM.out.2⟩
    · obtain rfl : j = n := by omega
      have HO := Lib.hid ho
      have HG := Lib.hid hgr
      clear ho hgr
      go_wp2_with fail
      go_ret
      exact ⟨rfl, HO.out, HG.out⟩
theorem markB_nil (a : Option Addr) (c k0 : Nat) (w : World) :
    Calls Tryd.prog 25 #[.slice a 0 c, .int .i64 (k0 : Int)] w fun e w' => e = .returned (.int .i64 (k0 : Int)) ∧ w = w' := by
  go_enter Tryd.func25, Tryd.ntmps25
  go_wp2_with fail
  refine wp_loop_rounds 1 ?_
  rw [rounds_succ]
  go_wp2_with fail
  go_ret
  exact ⟨rfl, rfl⟩
/-- The cells are marked from k0 on. -/
def HeldBx (w : World) (a : Option Addr) (n k0 : Nat) : Prop := 0 < n → ∃ b o, a = some ⟨b, o, none⟩ ∧ b < w.heap.size ∧ ∀ i, i < n * 3 → w.cell? ⟨b, o + i, none⟩ = some (.int .i64 ((k0 : Int) + (i : Int)))
theorem HeldBx.below {w w' : World} {a : Option Addr} {n k0 : Nat} (h : HeldBx w a n k0) (hb : Below w.heap.size w w') : HeldBx w' a n k0 := fun hn => by
  obtain ⟨b, o, e, hlt, hc⟩ := h hn
  exact ⟨b, o, e, Nat.lt_of_lt_of_le hlt hb.size, fun i hi => (hb.cell (p := ⟨b, o + i, none⟩) hlt).trans (hc i hi)⟩
theorem markB1 (X : List Bx) (n B cap k0 : Nat) (a : Option Addr) (w : World) (hX : X.length = n) (hown : OwnBx w B (.slice a n cap) X) (hn : n ≤ 1000) (hk0 : k0 ≤ 5000) :
    Calls Tryd.prog 25 #[.slice a n cap, .int .i64 (k0 : Int)] w fun e w' => e = .returned (.int .i64 ((k0 : Int) + (n : Int) * 3)) ∧ HeldBx w' a n k0 ∧ w.grownBy w' (Value.slice a n cap).ownBlock := by
  subst hX
  rcases hown.shape with ⟨rfl, rfl, rfl⟩ | ⟨g, rfl, _, _⟩
  · exact (markB_nil _ _ k0 _).mono fun e w' ⟨he, hw⟩ => ⟨he, fun h => absurd h (by simp), by subst hw; exact World.grownBy.refl _ _⟩
  · exact (markB_row (bcells X) X.length g cap B k0 w hown hn hk0).mono fun e w' ⟨he, ho, hg⟩ => ⟨he, fun _ => ⟨g, 0, rfl, (World.ownsRow.lt ho g rfl).2, fun i hi => by
      rw [Nat.zero_add]
      refine (ho.cellAt i hi).trans ?_
      rw [markedI_all (bcells_len X)]
      simp [hi]⟩, hg⟩
set_option maxRecDepth 100000 in
set_option maxHeartbeats 8000000 in
theorem heldB1 (n k0 : Nat) (a : Option Addr) (c : Nat) (w : World) (h : HeldBx w a n k0) (hn : n ≤ 1000) (hk0 : k0 ≤ 5000) :
    Calls Tryd.prog 26 #[.slice a n c, .int .i64 (k0 : Int)] w fun e w' => e = .returned (.int .i64 ((k0 : Int) + (n : Int) * 3)) ∧ ∃ m, w' = w.drewN m := by
  rcases Nat.eq_zero_or_pos n with h0 | h0
  · subst h0
    clear h
    go_enter Tryd.func26, Tryd.ntmps26
    go_wp2_with fail
    refine wp_loop_rounds 1 ?_
    rw [rounds_succ]
    go_wp2_with fail
    go_ret
    exact ⟨by simp, 0, rfl⟩
  · obtain ⟨b, o, rfl, hlt0, hc⟩ := h h0
    clear h
    have H := Lib.hid hc
    clear hc
    go_enter Tryd.func26, Tryd.ntmps26
    go_wp2_with fail
    go_loopg [1, 5] n (fun gh kk i wr => ∃ j q : Nat, j + gh = n ∧ i = .int .i64 j ∧ kk = .int .i64 ((k0 : Int) + (j : Int) * 3) ∧ wr = w.drewN q)
    case atStart => exact ⟨0, 0, by omega, rfl, by simp, rfl⟩
    case round =>
      obtain ⟨j, q, hj, rfl, rfl, rfl⟩ := hrel
      by_cases hlt : j < n
      · obtain ⟨gh, rfl⟩ : ∃ gh, gk = gh + 1 := ⟨gk - 1, by omega⟩
        have g0 : w.cell? ⟨b, o + j * 3, none⟩ = some (.int .i64 ((k0 : Int) + (j : Int) * 3)) := by
          have := H.out (j * 3) (by omega)
          rwa [show ((j * 3 : Nat) : Int) = (j : Int) * 3 by omega] at this
        have g1 : w.cell? ⟨b, o + j * 3 + 1, none⟩ = some (.int .i64 ((k0 : Int) + (j : Int) * 3 + 1)) := by
          have := H.out (j * 3 + 1) (by omega)
          rw [show (k0 : Int) + ((j * 3 + 1 : Nat) : Int) = (k0 : Int) + (j : Int) * 3 + 1 by omega] at this
          exact this
        have g2 : w.cell? ⟨b, o + j * 3 + 2, none⟩ = some (.int .i64 ((k0 : Int) + (j : Int) * 3 + 1 + 1)) := by
          have := H.out (j * 3 + 2) (by omega)
          rw [show (k0 : Int) + ((j * 3 + 2 : Nat) : Int) = (k0 : Int) + (j : Int) * 3 + 1 + 1 by omega] at this
          exact this
        go_wp2_with fail
        go_roundg gh
        case measure => omega
        case rel => exact ⟨j + 1, _, by omega, by go_num, by go_num, rfl⟩
      · obtain rfl : j = n := by omega
        go_wp2_with fail
        go_ret
        exact ⟨rfl, q, rfl⟩
end Go.Proofs.YthapidnjioindaaDoor
namespace Go.Proofs.YthapidnjioindaaDoor
open Go.RowKit

/-! The model. -/
def allN : Nat → Nat := fun _ => 1048575
def fillN (k : Nat) : Nat → Nat := fun j => if j < k then 1048575 else 0
theorem fillN_zero : rowsOfR (fillN 0) = List.replicate 24 0 := by
  apply List.eq_replicate_iff.2
  refine ⟨by simp [rowsOfR], fun b hb => ?_⟩
  unfold rowsOfR at hb
  obtain ⟨j, _, rfl⟩ := List.mem_map.1 hb
  simp [fillN]
theorem fillN_set {k : Nat} (hk : k < 24) : (rowsOfR (fillN k)).set k 1048575 = rowsOfR (fillN (k + 1)) := by
  have h := rows_set (fillN k) hk 1048575
  refine h.trans ?_
  congr 1
  funext i
  unfold fillN
  by_cases e : i = k
  · subst e; rw [if_pos rfl, if_pos (by omega)]
  · rw [if_neg e]
    by_cases h : i < k
    · rw [if_pos h, if_pos (by omega)]
    · rw [if_neg h, if_neg (by omega)]
theorem fillN_all : rowsOfR (fillN 24) = rowsOfR allN := by
  unfold rowsOfR
  apply List.map_congr_left
  intro j hj
  rw [List.mem_range] at hj
  unfold fillN allN
  rw [if_pos hj]
theorem bit_and0 (N x : Nat) (hN : N < 1048576) : (bits .and .i64 ((N : Int) / 2 ^ x) 1 == 0) = !N.testBit x := by
  have h := bit_and1 N x hN
  have e1 : (N : Int) / 2 ^ x = ((N / 2 ^ x : Nat) : Int) := by simp
  have hd : N / 2 ^ x ≤ N := Nat.div_le_self _ _
  have e2 := i64_and_nat (N / 2 ^ x) 1 (by omega) (by omega)
  rw [e1] at h ⊢
  simp only [Int.natCast_one] at e2
  rw [e2, Nat.and_one_is_mod] at h ⊢
  have hm := Nat.mod_lt (N / 2 ^ x) (show 0 < 2 by decide)
  rw [← h]
  rcases (show N / 2 ^ x % 2 = 0 ∨ N / 2 ^ x % 2 = 1 by omega) with h | h <;> rw [h] <;> rfl
/-- Row by row: the first j rows of the square are such, and i cells of the next. -/
def upto (p : Nat → Nat → Bool) (x y n j i : Nat) : Prop := (∀ j', j' < j → ∀ i', i' < n → p (x + i') (y + j') = true) ∧ ∀ i', i' < i → p (x + i') (y + j) = true
set_option maxRecDepth 100000 in
set_option maxHeartbeats 4000000 in
theorem l11Whole_any (F : Nat → Nat) (x y n : Nat) (a : Option Addr) (c : Nat) (w : World) (h : RdI w a 24 (rowsOfR F)) (hF : ∀ j, j < 24 → F j < 1048576) (hx : x < 20) (hy : y < 24) (hn : n ≤ 8) :
    Calls Tryd.prog 96 #[.agg #[.int .i64 (x : Int), .int .i64 (y : Int), .int .i64 (n : Int)], .slice a 24 c] w fun e w' => e = .returned (.bool (whole (cellF F) x y n)) ∧ Below w.heap.size w w' := by
  have XA := BoxF.new w [.int .i64 (x : Int), .int .i64 (y : Int), .int .i64 (n : Int)] 36
  have hb := (Below.refl _ w).alloc (Nat.le_refl _) (.cells #[.int .i64 (x : Int), .int .i64 (y : Int), .int .i64 (n : Int)] 36 (0, 0))
  have HX0 := Lib.hid XA
  have HB0 := Lib.hid hb
  have HR := Lib.hid h
  have HF := Lib.hid hF
  clear h hb XA hF
  have d1 := HX0.out.at 1
  simp only [List.getElem?_cons_zero, List.getElem?_cons_succ] at d1
  go_enter Tryd.func96, Tryd.ntmps96
  go_wp2_with fail
  clear d1
  go_loopw [5] (fun i wr => ∃ j : Nat, j ≤ n ∧ i = .int .i64 ((y : Int) + (j : Int)) ∧ Hid (BoxF wr w.heap.size [.int .i64 (x : Int), .int .i64 (y : Int), .int .i64 (n : Int)] 36) ∧ Hid (Below w.heap.size w wr) ∧ Hid (upto (cellF F) x y n j 0)) (fun i _ => y + n - (intOf i).toNat)
  case atStart => exact ⟨0, by omega, by simp, HX0, HB0, Lib.hid ⟨fun j hj => by omega, fun i hi => by omega⟩⟩
  case round =>
    clear HX0 HB0
    obtain ⟨j, hj, rfl, HX, HB, HU⟩ := hrel
    have d0 := HX.out.at 0
    have d1 := HX.out.at 1
    have d2 := HX.out.at 2
    simp only [List.getElem?_cons_zero, List.getElem?_cons_succ] at d0 d1 d2
    by_cases hlt : j < n
    · have ely : decide ((y : Int) + (j : Int) < (y : Int) + (n : Int)) = true := decide_eq_true (by omega)
      go_wp2_with fail
      clear d0 d1 d2
      go_loopw [6] (fun i wr => ∃ k : Nat, k ≤ n ∧ i = .int .i64 ((x : Int) + (k : Int)) ∧ Hid (BoxF wr w.heap.size [.int .i64 (x : Int), .int .i64 (y : Int), .int .i64 (n : Int)] 36) ∧ Hid (Below w.heap.size w wr) ∧ Hid (upto (cellF F) x y n j k)) (fun i _ => x + n - (intOf i).toNat)
      case atStart => exact ⟨0, by omega, by simp, HX, HB, HU⟩
      case round =>
        clear HX HB HU
        obtain ⟨k, hk, rfl, HX, HB, HU⟩ := hrel
        have d0 := HX.out.at 0
        have d1 := HX.out.at 1
        have d2 := HX.out.at 2
        simp only [List.getElem?_cons_zero, List.getElem?_cons_succ] at d0 d1 d2
        by_cases hlk : k < n
        · have elx : decide ((x : Int) + (k : Int) < (x : Int) + (n : Int)) = true := decide_eq_true (by omega)
          have CI := Lib.hid (fun W => l9In_any ((x : Int) + (k : Int)) ((y : Int) + (j : Int)) W)
          obtain ⟨z, hz⟩ : ∃ z, shZ ((x : Int) + (k : Int)) ((y : Int) + (j : Int)) = z := ⟨_, rfl⟩
          rw [hz] at CI
          cases z
          · have HW := Lib.hid (show whole (cellF F) x y n = false from whole_no hlt hlk (by unfold cellF; rw [show ((x + k : Nat) : Int) = (x : Int) + (k : Int) by omega, show ((y + j : Nat) : Int) = (y : Int) + (j : Int) by omega, hz]; rfl))
            clear hz
            go_wp2_with fail
            refine (CI.out _).mono ?_
            rintro e w2 ⟨rfl, rfl⟩
            go_wp2_with fail
            go_ret
            exact ⟨by rw [HW.out] <;> rfl, HB.out⟩
          · have hin : x + k < 20 ∧ y + j < 24 := by
              unfold shZ at hz
              simp only [Bool.and_eq_true, decide_eq_true_eq] at hz
              omega
            obtain ⟨hxk, hyj⟩ := hin
            obtain ⟨b, o, rfl, _, hc⟩ := (HR.out.below HB.out).2 (by omega)
            have x2 := hc (y + j) hyj
            rw [rowsOfR_getD F hyj] at x2
            have hN := HF.out (y + j) hyj
            have hbit := bit_and0 (F (y + j)) (x + k) hN
            have HZ := Lib.hid hz
            clear hc hz
            cases ht : (F (y + j)).testBit (x + k)
            · rw [ht] at hbit
              have HW := Lib.hid (show whole (cellF F) x y n = false from whole_no hlt hlk (by unfold cellF; rw [ht]; simp))
              clear ht
              generalize F (y + j) = N at *
              go_wp2_with fail
              refine (CI.out _).mono ?_
              rintro e w2 ⟨rfl, rfl⟩
              go_wp2_with fail
              go_ret
              exact ⟨by rw [HW.out] <;> rfl, HB.out⟩
            · rw [ht] at hbit
              have HC := Lib.hid (show cellF F (x + k) (y + j) = true by unfold cellF; rw [show ((x + k : Nat) : Int) = (x : Int) + (k : Int) by omega, show ((y + j : Nat) : Int) = (y : Int) + (j : Int) by omega, HZ.out, ht]; rfl)
              clear ht
              generalize F (y + j) = N at *
              go_wp2_with fail
              refine (CI.out _).mono ?_
              rintro e w2 ⟨rfl, rfl⟩
              go_wp2_with fail
              go_roundw
              case rel =>
                refine ⟨k + 1, by omega, by go_num, HX, HB, Lib.hid ⟨HU.out.1, fun i hi => ?_⟩⟩
                by_cases e : i = k
                · rw [e]; exact HC.out
                · exact HU.out.2 i (by omega)
              case measure => simp [intOf]; omega
        · have elx : decide ((x : Int) + (k : Int) < (x : Int) + (n : Int)) = false := decide_eq_false (by omega)
          obtain rfl : k = n := by omega
          go_wp2_with fail
          go_roundw
          case rel =>
            refine ⟨j + 1, by omega, by go_num, HX, HB, Lib.hid ⟨fun j' hj' => ?_, fun i hi => by omega⟩⟩
            by_cases e : j' = j
            · rw [e]; exact HU.out.2
            · exact HU.out.1 j' (by omega)
          case measure => simp [intOf]; omega
    · have ely : decide ((y : Int) + (j : Int) < (y : Int) + (n : Int)) = false := decide_eq_false (by omega)
      obtain rfl : j = n := by omega
      have HW := Lib.hid (show whole (cellF F) x y j = true from whole_iff.2 HU.out.1)
      go_wp2_with fail
      go_ret
      exact ⟨by rw [HW.out]; rfl, HB.out⟩
end Go.Proofs.YthapidnjioindaaDoor
