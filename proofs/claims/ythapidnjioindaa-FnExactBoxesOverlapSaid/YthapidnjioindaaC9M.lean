/- Plain facts of chapter 9: rows of cells as numbers, the operators on their bits, the shield, parts and ordinaries as tests of cells. -/
import Derived.Laws.BitsAllLaws
import Derived.Laws.BitsLemmas
import Derived.WalkKit
namespace Go.Proofs.Ythapidnjioindaa
open Go.RowKit

/-- The first k cells of a row as a number. -/
def rowN (p : Nat → Bool) : Nat → Nat
  | 0 => 0
  | k + 1 => rowN p k + if p k then 2 ^ k else 0
theorem rowN_lt (p : Nat → Bool) : ∀ k, rowN p k < 2 ^ k
  | 0 => by simp [rowN]
  | k + 1 => by
    have := rowN_lt p k
    have e : 2 ^ (k + 1) = 2 * 2 ^ k := by rw [Nat.pow_succ]; omega
    show rowN p k + (if p k then 2 ^ k else 0) < _
    split <;> omega
theorem rowN_bit (p : Nat → Bool) : ∀ k x, (rowN p k).testBit x = (decide (x < k) && p x)
  | 0, x => by simp [rowN]
  | k + 1, x => by
    have ih := rowN_bit p k x
    have h := Nat.testBit_two_pow_mul_add (i := k) (if p k then 1 else 0) (rowN_lt p k) x
    have e : rowN p (k + 1) = 2 ^ k * (if p k then 1 else 0) + rowN p k := by
      show rowN p k + (if p k then 2 ^ k else 0) = _
      split <;> omega
    rw [e, h]
    by_cases h1 : x < k
    · rw [if_pos h1, ih]; simp [h1, Nat.lt_succ_of_lt h1]
    · rw [if_neg h1]
      by_cases h2 : x = k
      · subst h2; cases hp : p x <;> simp
      · obtain ⟨m, hm⟩ : ∃ m, x - k = m + 1 := ⟨x - k - 1, by omega⟩
        rw [hm]
        have h3 : decide (x < k + 1) = false := decide_eq_false (by omega)
        rw [h3]
        cases p k
        · simp
        · simp [Nat.testBit_succ]
theorem rowN_lt20 (p : Nat → Bool) : rowN p 20 < 1048576 := by have := rowN_lt p 20; omega
theorem rowN_ltk (p : Nat → Bool) {k : Nat} (hk : k ≤ 20) : rowN p k < 1048576 := by
  have h := rowN_lt p k
  have h2 : 2 ^ k ≤ 2 ^ 20 := Nat.pow_le_pow_right (by omega) hk
  omega
theorem rowN_congr {p q : Nat → Bool} : ∀ {k : Nat}, (∀ x, x < k → p x = q x) → rowN p k = rowN q k
  | 0, _ => rfl
  | k + 1, h => by
    unfold rowN
    rw [rowN_congr (fun x hx => h x (by omega)), h k (by omega)]
theorem rowN_or (p : Nat → Bool) (k : Nat) : rowN p k ||| 2 ^ k = rowN p k + 2 ^ k := by
  rw [Nat.or_comm, nat_join k _ _ (by simp) (rowN_lt p k)]
  omega
theorem rowN_eq {a : Nat} (p : Nat → Bool) (ha : a < 1048576) (h : ∀ x, x < 20 → a.testBit x = p x) : a = rowN p 20 := by
  apply Nat.eq_of_testBit_eq
  intro x
  rw [rowN_bit]
  by_cases hx : x < 20
  · rw [h x hx]; simp [hx]
  · rw [Nat.testBit_lt_two_pow (Nat.lt_of_lt_of_le (show a < 2 ^ 20 by omega) (Nat.pow_le_pow_right (by omega) (by omega)))]
    simp [hx]

/-! The operators at 64 bits with a sign. -/
theorem i64w (n : Nat) (h : n < 9223372036854775808) : IntKind.i64.wrap (n : Int) = (n : Int) := by
  simp [IntKind.wrap, IntKind.bits, IntKind.signed]; omega
theorem i64_or_nat (a b : Nat) (ha : a < 1099511627776) (hb : b < 1099511627776) : bits .or .i64 (a : Int) (b : Int) = ((a ||| b : Nat) : Int) := by
  have hx : a ||| b < 2 ^ 40 := Nat.or_lt_two_pow (by omega) (by omega)
  show IntKind.i64.wrap ((BitVec.ofInt 64 (a : Int) ||| BitVec.ofInt 64 (b : Int)).toNat : Int) = _
  rw [BitVec.toNat_or, ofInt_u64 a (by omega), ofInt_u64 b (by omega), i64w _ (by omega)]
theorem i64_and_nat (a b : Nat) (ha : a < 1099511627776) (hb : b < 1099511627776) : bits .and .i64 (a : Int) (b : Int) = ((a &&& b : Nat) : Int) := by
  have hx : a &&& b < 2 ^ 40 := Nat.and_lt_two_pow _ (by omega)
  show IntKind.i64.wrap ((BitVec.ofInt 64 (a : Int) &&& BitVec.ofInt 64 (b : Int)).toNat : Int) = _
  rw [BitVec.toNat_and, ofInt_u64 a (by omega), ofInt_u64 b (by omega), i64w _ (by omega)]
/-- The bits of a that are not in b. -/
def lessN (a b : Nat) : Nat := a &&& (2 ^ 64 - (b + 1))
theorem lessN_bit {a b : Nat} (hb : b < 1099511627776) (ha : a < 1099511627776) (x : Nat) : (lessN a b).testBit x = (a.testBit x && !b.testBit x) := by
  unfold lessN
  rw [Nat.testBit_and, Nat.testBit_two_pow_sub_succ (show b < 2 ^ 64 by omega)]
  by_cases hx : x < 64
  · simp [hx]
  · have : a.testBit x = false := Nat.testBit_lt_two_pow (Nat.lt_of_lt_of_le (show a < 2 ^ 64 by omega) (Nat.pow_le_pow_right (by omega) (by omega)))
    simp [this]
theorem lessN_lt {a b : Nat} (ha : a < 1048576) : lessN a b < 1048576 := by
  have : lessN a b ≤ a := Nat.and_le_left
  omega
theorem i64_andNot_nat (a b : Nat) (ha : a < 1099511627776) (hb : b < 1099511627776) : bits .andNot .i64 (a : Int) (b : Int) = ((lessN a b : Nat) : Int) := by
  have hx : lessN a b ≤ a := Nat.and_le_left
  show IntKind.i64.wrap ((BitVec.ofInt 64 (a : Int) &&& ~~~BitVec.ofInt 64 (b : Int)).toNat : Int) = _
  rw [BitVec.toNat_and, BitVec.toNat_not, ofInt_u64 a (by omega), ofInt_u64 b (by omega)]
  have e : 2 ^ 64 - 1 - b = 2 ^ 64 - (b + 1) := by omega
  rw [e]
  exact i64w _ (by unfold lessN at hx; omega)
theorem sub_mask {a m : Nat} : a &&& m = a ↔ ∀ x, a.testBit x = true → m.testBit x = true := by
  constructor
  · intro h x hx
    rw [← h, Nat.testBit_and] at hx
    simp at hx; exact hx.2
  · intro h
    apply Nat.eq_of_testBit_eq
    intro x
    rw [Nat.testBit_and]
    cases hx : a.testBit x
    · simp
    · simp [h x hx]
/-- A number is a row of cells within the mask. -/
def goodRow (m : Nat) (a : Int) : Bool := decide (0 ≤ a) && decide (a.toNat &&& m = a.toNat)
theorem goodRow_out {m : Nat} {a : Int} (hm : m < 1048576) (h : goodRow m a = true) : ∃ n : Nat, a = n ∧ n < 1048576 ∧ n &&& m = n := by
  unfold goodRow at h
  simp only [Bool.and_eq_true, decide_eq_true_eq] at h
  have : a.toNat &&& m ≤ m := Nat.and_le_right
  exact ⟨a.toNat, by omega, by omega, h.2⟩
/-- The program's test: no bit outside the mask, the sign among them. -/
theorem andNot_zero (a : Int) (m : Nat) (hm : m < 1048576) (h1 : -9223372036854775808 ≤ a) (h2 : a < 9223372036854775808) : (bits .andNot .i64 a (m : Int) == 0) = goodRow m a := by
  obtain ⟨n, hn⟩ : ∃ n, (BitVec.ofInt 64 a).toNat = n := ⟨_, rfl⟩
  have hn64 : n < 2 ^ 64 := by rw [← hn]; exact (BitVec.ofInt 64 a).isLt
  have hna : (n : Int) = a % 18446744073709551616 := by
    rw [← hn, BitVec.toNat_ofInt]
    have : (0 : Int) ≤ a % ((2 ^ 64 : Nat) : Int) := Int.emod_nonneg _ (by decide)
    omega
  have e : bits .andNot .i64 a (m : Int) = IntKind.i64.wrap ((lessN n m : Nat) : Int) := by
    show IntKind.i64.wrap ((BitVec.ofInt 64 a &&& ~~~BitVec.ofInt 64 (m : Int)).toNat : Int) = _
    rw [BitVec.toNat_and, BitVec.toNat_not, hn, ofInt_u64 m (by omega)]
    have e : 2 ^ 64 - 1 - m = 2 ^ 64 - (m + 1) := by omega
    rw [e]; rfl
  have hl : lessN n m < 2 ^ 64 := Nat.lt_of_le_of_lt Nat.and_le_left hn64
  have hz : IntKind.i64.wrap ((lessN n m : Nat) : Int) = 0 ↔ lessN n m = 0 := by
    simp [IntKind.wrap, IntKind.bits, IntKind.signed]; omega
  have hq : lessN n m = 0 ↔ n &&& m = n := by
    rw [sub_mask]
    have hb : ∀ x, (lessN n m).testBit x = (n.testBit x && !m.testBit x) := fun x => by
      unfold lessN
      rw [Nat.testBit_and, Nat.testBit_two_pow_sub_succ (show m < 2 ^ 64 by omega)]
      by_cases hx : x < 64
      · simp [hx]
      · have : n.testBit x = false := Nat.testBit_lt_two_pow (Nat.lt_of_lt_of_le hn64 (Nat.pow_le_pow_right (by omega) (by omega)))
        simp [this]
    constructor
    · intro h x hx
      have := hb x
      rw [h, hx] at this
      simpa using this
    · intro h
      apply Nat.eq_of_testBit_eq
      intro x
      rw [hb]
      cases hx : n.testBit x
      · simp
      · simp [h x hx]
  rw [e]
  unfold goodRow
  by_cases h : lessN n m = 0
  · have h3 := hq.1 h
    have h4 : n &&& m ≤ m := Nat.and_le_right
    have h5 : a = n := by omega
    rw [hz.2 h, h5]
    simp [h3]
  · have h3 : ¬ n &&& m = n := fun h' => h (hq.2 h')
    rw [beq_eq_false_iff_ne.2 (fun h' => h (hz.1 h'))]
    symm
    simp only [Bool.and_eq_false_iff, decide_eq_false_iff_not]
    by_cases h0 : 0 ≤ a
    · right
      rwa [show a.toNat = n by omega]
    · exact .inl h0

/-! The shield. -/
/-- The cell (x, y) of the grid belongs to the shield. -/
def shB (x y : Nat) : Bool := decide (y < 12) || decide (576 * (2 * (x : Int) - 19) * (2 * (x : Int) - 19) + 400 * (2 * (y : Int) - 23) * (2 * (y : Int) - 23) ≤ 230400)
/-- The rows of the cells that a test takes, the shield's only. -/
def regN (p : Nat → Nat → Bool) (y : Nat) : Nat := rowN (fun x => shB x y && p x y) 20
def shN (y : Nat) : Nat := rowN (fun x => shB x y) 20
theorem regN_lt (p : Nat → Nat → Bool) (y : Nat) : regN p y < 1048576 := rowN_lt20 _
theorem shN_lt (y : Nat) : shN y < 1048576 := rowN_lt20 _
def rowsOfR (f : Nat → Nat) : List Int := (List.range 24).map (fun y => ((f y : Nat) : Int))
/-- The rows while they are filled: y rows are whole, x cells of the next one are done. -/
def stR (p : Nat → Nat → Bool) (y x : Nat) : List Int := (List.range 24).map (fun j => ((if j < y then regN p j else if j = y then rowN (fun i => shB i j && p i j) x else 0 : Nat) : Int))
theorem stR_len (p : Nat → Nat → Bool) (y x : Nat) : (stR p y x).length = 24 := by simp [stR]
theorem stR_start (p : Nat → Nat → Bool) : stR p 0 0 = List.replicate 24 0 := by
  unfold stR
  apply List.eq_replicate_iff.2
  refine ⟨by simp, fun b hb => ?_⟩
  obtain ⟨j, _, rfl⟩ := List.mem_map.1 hb
  rw [if_neg (by omega)]
  split <;> rfl
theorem stR_next (p : Nat → Nat → Bool) (y : Nat) : stR p y 20 = stR p (y + 1) 0 := by
  unfold stR
  apply List.map_congr_left
  intro j _
  congr 1
  by_cases h1 : j < y
  · simp [h1, Nat.lt_succ_of_lt h1]
  · by_cases h2 : j = y
    · subst h2; simp [regN]
    · have h3 : ¬ j < y + 1 := by omega
      rw [if_neg h1, if_neg h2, if_neg h3]
      split <;> rfl
theorem stR_all (p : Nat → Nat → Bool) : stR p 24 0 = rowsOfR (regN p) := by
  unfold stR rowsOfR
  apply List.map_congr_left
  intro j hj
  rw [List.mem_range] at hj
  rw [if_pos hj]
theorem stR_at (p : Nat → Nat → Bool) {y : Nat} (x : Nat) (hy : y < 24) : (stR p y x)[y]? = some ((rowN (fun i => shB i y && p i y) x : Nat) : Int) := by
  unfold stR
  rw [List.getElem?_map, List.getElem?_range hy]
  simp
theorem stR_skip (p : Nat → Nat → Bool) {y x : Nat} (h : (shB x y && p x y) = false) : stR p y (x + 1) = stR p y x := by
  unfold stR
  apply List.map_congr_left
  intro j _
  congr 1
  split
  · rfl
  · split
    · subst_vars
      show rowN _ x + (if _ then _ else _) = _
      rw [if_neg (by show ¬ (shB x _ && p x _) = true; rw [h]; decide)]
      rfl
    · rfl
theorem stR_set (p : Nat → Nat → Bool) {y x : Nat} (hy : y < 24) (h : (shB x y && p x y) = true) : (stR p y x).set y (((rowN (fun i => shB i y && p i y) x + 2 ^ x : Nat)) : Int) = stR p y (x + 1) := by
  apply List.ext_getElem?
  intro j
  rw [List.getElem?_set]
  unfold stR
  by_cases hj : y = j
  · subst hj
    simp only [List.length_map, List.length_range, hy, if_pos]
    rw [List.getElem?_map, List.getElem?_range hy]
    simp only [Option.map_some, Nat.lt_irrefl, if_false, if_true]
    congr 2
    show _ = rowN _ x + (if _ then _ else _)
    rw [if_pos h]
  · rw [if_neg hj, List.getElem?_map, List.getElem?_map]
    rcases Nat.lt_or_ge j 24 with h24 | h24
    · rw [List.getElem?_range h24]
      have hne : ¬ j = y := fun e => hj e.symm
      simp [hne]
    · rw [List.getElem?_eq_none (by simpa using h24)]; rfl
end Go.Proofs.Ythapidnjioindaa
