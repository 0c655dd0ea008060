/- Several small texts in one: C9M, C9A, BoxP, C9W. -/
import Derived.Laws.BitsAllLaws
import Derived.Laws.BitsLemmas
import Derived.WalkKit
import Derived.Test.YthapidnjioindaaDoorKA
import Derived.Test.YthapidnjioindaaDoorProg
import Derived.WalkLawsBesides
import Derived.IntWalk
import Derived.Deep.QuietTactic
import Derived.Deep.RegionWith
import Derived.BigQuiet
namespace Go.Proofs.YthapidnjioindaaDoor
open Go.RowKit

/-- The first k cells of a row as a number. -/
def rowN (p : Nat → Bool) : Nat → Nat
  | 0 => 0
  | k + 1 => rowN p k + if p k then 2 ^ k else 0
theorem rowN_lt (p : Nat → Bool) : ∀ k, rowN p k < 2 ^ k
  | 0 => by simp [rowN]
  | k + 1 => by
    have := rowN_lt p k
    have e : 2 ^ (k + 1) = 2 * 2 ^ k := by rw [Nat.pow_succ]; omega
    show rowN p k + (if p k then 2 ^ k else 0) < _
    split <;> omega
theorem rowN_bit (p : Nat → Bool) : ∀ k x, (rowN p k).testBit x = (decide (x < k) && p x)
  | 0, x => by simp [rowN]
  | k + 1, x => by
    have ih := rowN_bit p k x
    have h := Nat.testBit_two_pow_mul_add (i := k) (if p k then 1 else 0) (rowN_lt p k) x
    have e : rowN p (k + 1) = 2 ^ k * (if p k then 1 else 0) + rowN p k := by
      show rowN p k + (if p k then 2 ^ k else 0) = _
      split <;> omega
    rw [e, h]
    by_cases h1 : x < k
    · rw [if_pos h1, ih]; simp [h1, Nat.lt_succ_of_lt h1]
    · rw [if_neg h1]
      by_cases h2 : x = k
      · subst h2; cases hp : p x <;> simp
      · obtain ⟨m, hm⟩ : ∃ m, x - k = m + 1 := ⟨x - k - 1, by omega⟩
        rw [hm]
        have h3 : decide (x < k + 1) = false := decide_eq_false (by omega)
        rw [h3]
        cases p k
        · simp
        · simp [Nat.testBit_succ]
theorem rowN_lt20 (p : Nat → Bool) : rowN p 20 < 1048576 := by have := rowN_lt p 20; omega
theorem rowN_ltk (p : Nat → Bool) {k : Nat} (hk : k ≤ 20) : rowN p k < 1048576 := by
  have h := rowN_lt p k
  have h2 : 2 ^ k ≤ 2 ^ 20 := Nat.pow_le_pow_right (by omega) hk
  omega
theorem rowN_congr {p q : Nat → Bool} : ∀ {k : Nat}, (∀ x, x < k → p x = q x) → rowN p k = rowN q k
  | 0, _ => rfl
  | k + 1, h => by
    unfold rowN
    rw [rowN_congr (fun x hx => h x (by omega)), h k (by omega)]
theorem rowN_or (p : Nat → Bool) (k : Nat) : rowN p k ||| 2 ^ k = rowN p k + 2 ^ k := by
  rw [Nat.or_comm, nat_join k _ _ (by simp) (rowN_lt p k)]
  omega
theorem rowN_eq {a : Nat} (p : Nat → Bool) (ha : a < 1048576) (h : ∀ x, x < 20 → a.testBit x = p x) : a = rowN p 20 := by
  apply Nat.eq_of_testBit_eq
  intro x
  rw [rowN_bit]
  by_cases hx : x < 20
  · rw [h x hx]; simp [hx]
  · rw [Nat.testBit_lt_two_pow (Nat.lt_of_lt_of_le (show a < 2 ^ 20 by omega) (Nat.pow_le_pow_right (by omega) (by omega)))]
    simp [hx]

/-! The operators at 64 bits with a sign. -/
theorem i64w (n : Nat) (h : n < 9223372036854775808) : IntKind.i64.wrap (n : Int) = (n : Int) := by
  simp [IntKind.wrap, IntKind.bits, IntKind.signed]; omega
theorem i64_or_nat (a b : Nat) (ha : a < 1099511627776) (hb : b < 1099511627776) : bits .or .i64 (a : Int) (b : Int) = ((a ||| b : Nat) : Int) := by
  have hx : a ||| b < 2 ^ 40 := Nat.or_lt_two_pow (by omega) (by omega)
  show IntKind.i64.wrap ((BitVec.ofInt 64 (a : Int) ||| BitVec.ofInt 64 (b : Int)).toNat : Int) = _
  rw [BitVec.toNat_or, ofInt_u64 a (by omega), ofInt_u64 b (by omega), i64w _ (by omega)]
theorem i64_and_nat (a b : Nat) (ha : a < 1099511627776) (hb : b < 1099511627776) : bits .and .i64 (a : Int) (b : Int) = ((a &&& b : Nat) : Int) := by
  have hx : a &&& b < 2 ^ 40 := Nat.and_lt_two_pow _ (by omega)
  show IntKind.i64.wrap ((BitVec.ofInt 64 (a : Int) &&& BitVec.ofInt 64 (b : Int)).toNat : Int) = _
  rw [BitVec.toNat_and, ofInt_u64 a (by omega), ofInt_u64 b (by omega), i64w _ (by omega)]
/-- The bits of a that are not in b. -/
def lessN (a b : Nat) : Nat := a &&& (2 ^ 64 - (b + 1))
theorem lessN_bit {a b : Nat} (hb : b < 1099511627776) (ha : a < 1099511627776) (x : Nat) : (lessN a b).testBit x = (a.testBit x && !b.testBit x) := by
  unfold lessN
  rw [Nat.testBit_and, Nat.testBit_two_pow_sub_succ (show b < 2 ^ 64 by omega)]
  by_cases hx : x < 64
  · simp [hx]
  · have : a.testBit x = false := Nat.testBit_lt_two_pow (Nat.lt_of_lt_of_le (show a < 2 ^ 64 by omega) (Nat.pow_le_pow_right (by omega) (by omega)))
    simp [this]
theorem lessN_lt {a b : Nat} (ha : a < 1048576) : lessN a b < 1048576 := by
  have : lessN a b ≤ a := Nat.and_le_left
  omega
theorem i64_andNot_nat (a b : Nat) (ha : a < 1099511627776) (hb : b < 1099511627776) : bits .andNot .i64 (a : Int) (b : Int) = ((lessN a b : Nat) : Int) := by
  have hx : lessN a b ≤ a := Nat.and_le_left
  show IntKind.i64.wrap ((BitVec.ofInt 64 (a : Int) &&& ~~~BitVec.ofInt 64 (b : Int)).toNat : Int) = _
  rw [BitVec.toNat_and, BitVec.toNat_not, ofInt_u64 a (by omega), ofInt_u64 b (by omega)]
  have e : 2 ^ 64 - 1 - b = 2 ^ 64 - (b + 1) := by omega
  rw [e]
  exact i64w _ (by unfold lessN at hx; omega)
theorem sub_mask {a m : Nat} : a &&& m = a ↔ ∀ x, a.testBit x = true → m.testBit x = true := by
  constructor
  · intro h x hx
    rw [← h, Nat.testBit_and] at hx
    simp at hx; exact hx.2
  · intro h
    apply Nat.eq_of_testBit_eq
    intro x
    rw [Nat.testBit_and]
    cases hx : a.testBit x
    · simp
    · simp [h x hx]
/-- A number is a row of cells within the mask. -/
def goodRow (m : Nat) (a : Int) : Bool := decide (0 ≤ a) && decide (a.toNat &&& m = a.toNat)
theorem goodRow_out {m : Nat} {a : Int} (hm : m < 1048576) (h : goodRow m a = true) : ∃ n : Nat, a = n ∧ n < 1048576 ∧ n &&& m = n := by
  unfold goodRow at h
  simp only [Bool.and_eq_true, decide_eq_true_eq] at h
  have : a.toNat &&& m ≤ m := Nat.and_le_right
  exact ⟨a.toNat, by omega, by omega, h.2⟩
/-- The program's test: no bit outside the mask, the sign among them. -/
theorem andNot_zero (a : Int) (m : Nat) (hm : m < 1048576) (h1 : -9223372036854775808 ≤ a) (h2 : a < 9223372036854775808) : (bits .andNot .i64 a (m : Int) == 0) = goodRow m a := by
  obtain ⟨n, hn⟩ : ∃ n, (BitVec.ofInt 64 a).toNat = n := ⟨_, rfl⟩
  have hn64 : n < 2 ^ 64 := by rw [← hn]; exact (BitVec.ofInt 64 a).isLt
  have hna : (n : Int) = a % 18446744073709551616 := by
    rw [← hn, BitVec.toNat_ofInt]
    have : (0 : Int) ≤ a % ((2 ^ 64 : Nat) : Int) := Int.emod_nonneg _ (by decide)
    omega
  have e : bits .andNot .i64 a (m : Int) = IntKind.i64.wrap ((lessN n m : Nat) : Int) := by
    show IntKind.i64.wrap ((BitVec.ofInt 64 a &&& ~~~BitVec.ofInt 64 (m : Int)).toNat : Int) = _
    rw [BitVec.toNat_and, BitVec.toNat_not, hn, ofInt_u64 m (by omega)]
    have e : 2 ^ 64 - 1 - m = 2 ^ 64 - (m + 1) := by omega
    rw [e]; rfl
  have hl : lessN n m < 2 ^ 64 := Nat.lt_of_le_of_lt Nat.and_le_left hn64
  have hz : IntKind.i64.wrap ((lessN n m : Nat) : Int) = 0 ↔ lessN n m = 0 := by
    simp [IntKind.wrap, IntKind.bits, IntKind.signed]; omega
  have hq : lessN n m = 0 ↔ n &&& m = n := by
    rw [sub_mask]
    have hb : ∀ x, (lessN n m).testBit x = (n.testBit x && !m.testBit x) := fun x => by
      unfold lessN
      rw [Nat.testBit_and, Nat.testBit_two_pow_sub_succ (show m < 2 ^ 64 by omega)]
      by_cases hx : x < 64
      · simp [hx]
      · have : n.testBit x = false := Nat.testBit_lt_two_pow (Nat.lt_of_lt_of_le hn64 (Nat.pow_le_pow_right (by omega) (by omega)))
        simp [this]
    constructor
    · intro h x hx
      have := hb x
      rw [h, hx] at this
      simpa using this
    · intro h
      apply Nat.eq_of_testBit_eq
      intro x
      rw [hb]
      cases hx : n.testBit x
      · simp
      · simp [h x hx]
  rw [e]
  unfold goodRow
  by_cases h : lessN n m = 0
  · have h3 := hq.1 h
    have h4 : n &&& m ≤ m := Nat.and_le_right
    have h5 : a = n := by omega
    rw [hz.2 h, h5]
    simp [h3]
  · have h3 : ¬ n &&& m = n := fun h' => h (hq.2 h')
    rw [beq_eq_false_iff_ne.2 (fun h' => h (hz.1 h'))]
    symm
    simp only [Bool.and_eq_false_iff, decide_eq_false_iff_not]
    by_cases h0 : 0 ≤ a
    · right
      rwa [show a.toNat = n by omega]
    · exact .inl h0

/-! The shield. -/
/-- The cell (x, y) of the grid belongs to the shield. -/
def shB (x y : Nat) : Bool := decide (y < 12) || decide (576 * (2 * (x : Int) - 19) * (2 * (x : Int) - 19) + 400 * (2 * (y : Int) - 23) * (2 * (y : Int) - 23) ≤ 230400)
/-- The rows of the cells that a test takes, the shield's only. -/
def regN (p : Nat → Nat → Bool) (y : Nat) : Nat := rowN (fun x => shB x y && p x y) 20
def shN (y : Nat) : Nat := rowN (fun x => shB x y) 20
theorem regN_lt (p : Nat → Nat → Bool) (y : Nat) : regN p y < 1048576 := rowN_lt20 _
theorem shN_lt (y : Nat) : shN y < 1048576 := rowN_lt20 _
def rowsOfR (f : Nat → Nat) : List Int := (List.range 24).map (fun y => ((f y : Nat) : Int))
/-- The rows while they are filled: y rows are whole, x cells of the next one are done. -/
def stR (p : Nat → Nat → Bool) (y x : Nat) : List Int := (List.range 24).map (fun j => ((if j < y then regN p j else if j = y then rowN (fun i => shB i j && p i j) x else 0 : Nat) : Int))
theorem stR_len (p : Nat → Nat → Bool) (y x : Nat) : (stR p y x).length = 24 := by simp [stR]
theorem stR_start (p : Nat → Nat → Bool) : stR p 0 0 = List.replicate 24 0 := by
  unfold stR
  apply List.eq_replicate_iff.2
  refine ⟨by simp, fun b hb => ?_⟩
  obtain ⟨j, _, rfl⟩ := List.mem_map.1 hb
  rw [if_neg (by omega)]
  split <;> rfl
theorem stR_next (p : Nat → Nat → Bool) (y : Nat) : stR p y 20 = stR p (y + 1) 0 := by
  unfold stR
  apply List.map_congr_left
  intro j _
  congr 1
  by_cases h1 : j < y
  · simp [h1, Nat.lt_succ_of_lt h1]
  · by_cases h2 : j = y
    · subst h2; simp [regN]
    · have h3 : ¬ j < y + 1 := by omega
      rw [if_neg h1, if_neg h2, if_neg h3]
      split <;> rfl
theorem stR_all (p : Nat → Nat → Bool) : stR p 24 0 = rowsOfR (regN p) := by
  unfold stR rowsOfR
  apply List.map_congr_left
  intro j hj
  rw [List.mem_range] at hj
  rw [if_pos hj]
theorem stR_at (p : Nat → Nat → Bool) {y : Nat} (x : Nat) (hy : y < 24) : (stR p y x)[y]? = some ((rowN (fun i => shB i y && p i y) x : Nat) : Int) := by
  unfold stR
  rw [List.getElem?_map, List.getElem?_range hy]
  simp
theorem stR_skip (p : Nat → Nat → Bool) {y x : Nat} (h : (shB x y && p x y) = false) : stR p y (x + 1) = stR p y x := by
  unfold stR
  apply List.map_congr_left
  intro j _
  congr 1
  split
  · rfl
  · split
    · subst_vars
      show rowN _ x + (if _ then _ else _) = _
      rw [if_neg (by show ¬ (shB x _ && p x _) = true; rw [h]; decide)]
      rfl
    · rfl
theorem stR_set (p : Nat → Nat → Bool) {y x : Nat} (hy : y < 24) (h : (shB x y && p x y) = true) : (stR p y x).set y (((rowN (fun i => shB i y && p i y) x + 2 ^ x : Nat)) : Int) = stR p y (x + 1) := by
  apply List.ext_getElem?
  intro j
  rw [List.getElem?_set]
  unfold stR
  by_cases hj : y = j
  · subst hj
    simp only [List.length_map, List.length_range, hy, if_pos]
    rw [List.getElem?_map, List.getElem?_range hy]
    simp only [Option.map_some, Nat.lt_irrefl, if_false, if_true]
    congr 2
    show _ = rowN _ x + (if _ then _ else _)
    rw [if_pos h]
  · rw [if_neg hj, List.getElem?_map, List.getElem?_map]
    rcases Nat.lt_or_ge j 24 with h24 | h24
    · rw [List.getElem?_range h24]
      have hne : ¬ j = y := fun e => hj e.symm
      simp [hne]
    · rw [List.getElem?_eq_none (by simpa using h24)]; rfl
end Go.Proofs.YthapidnjioindaaDoor
namespace Go.Proofs.YthapidnjioindaaDoor
open Go.RowKit

theorem in_any (x a b : Int) (w : World) (p : Bool) (hp : decide (a ≤ x ∧ x ≤ b) = p) :
    Calls Tryd.prog 57 #[.int .i64 x, .int .i64 a, .int .i64 b] w fun e w' => e = .returned (.bool p) ∧ w = w' := by
  obtain ⟨p1, e1⟩ : ∃ p, decide (a ≤ x) = p := ⟨_, rfl⟩
  obtain ⟨p2, e2⟩ : ∃ p, decide (x ≤ b) = p := ⟨_, rfl⟩
  have hR : (p1 && p2) = p := by rw [← hp, ← e1, ← e2]; by_cases h : a ≤ x <;> by_cases h' : x ≤ b <;> simp [h, h']
  clear hp
  subst hR
  cases p1
  all_goals
    go_enter Tryd.func57, Tryd.ntmps57
    go_wp2_with fail
    go_ret
    exact ⟨by first | rfl | simp, rfl⟩
/-- The cell (x, y) is one of the grid, and of the shield. -/
def shZ (x y : Int) : Bool := decide (0 ≤ x ∧ x ≤ 19) && (decide (0 ≤ y ∧ y ≤ 23) && shB x.toNat y.toNat)
theorem shZ_nat {x y : Nat} (hx : x < 20) (hy : y < 24) : shZ (x : Int) (y : Int) = shB x y := by
  unfold shZ
  rw [decide_eq_true (by omega), decide_eq_true (by omega)]
  simp
theorem sq_bound (a n : Int) (h0 : -n ≤ a) (h1 : a ≤ n) : 0 ≤ a * a ∧ a * a ≤ n * n := by
  have hn : 0 ≤ n := by omega
  constructor
  · rcases Int.le_total 0 a with h | h
    · exact Int.mul_nonneg h h
    · have := Int.mul_nonneg (Int.neg_nonneg_of_nonpos h) (Int.neg_nonneg_of_nonpos h)
      rwa [Int.neg_mul_neg] at this
  · have h3 : 0 ≤ (n - a) * (n + a) := Int.mul_nonneg (by omega) (by omega)
    have h4 : (n - a) * (n + a) = n * n - a * a := by rw [Int.sub_mul, Int.mul_add, Int.mul_add, Int.mul_comm a n]; omega
    omega
theorem inShield_impl (x y : Int) (w : World) :
    Calls Tryd.prog 98 #[.int .i64 x, .int .i64 y] w fun e w' => e = .returned (.bool (shZ x y)) ∧ w = w' := by
  by_cases hx0 : x < 0
  · have e1 : decide (x < 0) = true := by simpa using hx0
    rw [show shZ x y = false by unfold shZ; rw [decide_eq_false (by omega)]; rfl]
    go_enter Tryd.func98, Tryd.ntmps98
    go_wp2_with fail
    go_ret
    exact ⟨rfl, rfl⟩
  have e1 : decide (x < 0) = false := by simpa using hx0
  by_cases hx1 : 19 < x
  · have e2 : decide (20 ≤ x) = true := by simp; omega
    rw [show shZ x y = false by unfold shZ; rw [decide_eq_false (by omega)]; rfl]
    go_enter Tryd.func98, Tryd.ntmps98
    go_wp2_with fail
    go_ret
    exact ⟨rfl, rfl⟩
  have e2 : decide (20 ≤ x) = false := by simp; omega
  by_cases hy0 : y < 0
  · have e3 : decide (y < 0) = true := by simpa using hy0
    rw [show shZ x y = false by unfold shZ; rw [decide_eq_false (p := 0 ≤ y ∧ y ≤ 23) (by omega)]; simp]
    go_enter Tryd.func98, Tryd.ntmps98
    go_wp2_with fail
    go_ret
    exact ⟨rfl, rfl⟩
  have e3 : decide (y < 0) = false := by simpa using hy0
  by_cases hy1 : 23 < y
  · have e4 : decide (24 ≤ y) = true := by simp; omega
    rw [show shZ x y = false by unfold shZ; rw [decide_eq_false (p := 0 ≤ y ∧ y ≤ 23) (by omega)]; simp]
    go_enter Tryd.func98, Tryd.ntmps98
    go_wp2_with fail
    go_ret
    exact ⟨rfl, rfl⟩
  have e4 : decide (24 ≤ y) = false := by simp; omega
  obtain ⟨a, rfl⟩ : ∃ a : Nat, x = a := ⟨x.toNat, by omega⟩
  obtain ⟨b, rfl⟩ : ∃ b : Nat, y = b := ⟨y.toNat, by omega⟩
  rw [shZ_nat (by omega) (by omega)]
  clear e1 e2 e3 e4 hx0 hy0
  by_cases h12 : b < 12
  · rw [show shB a b = true by unfold shB; rw [decide_eq_true h12]; rfl]
    have e5 : decide ((b : Int) < 12) = true := by simp; omega
    go_enter Tryd.func98, Tryd.ntmps98
    go_wp2_with fail
    go_ret
    exact ⟨rfl, rfl⟩
  · have e5 : decide ((b : Int) < 12) = false := by simp; omega
    have q1 := sq_bound (24 * (2 * (a : Int) + 1 - 20)) 456 (by omega) (by omega)
    have q2 := sq_bound (20 * (2 * (b : Int) + 1 - 24)) 460 (by omega) (by omega)
    have hq : decide (24 * (2 * (a : Int) + 1 - 20) * (24 * (2 * (a : Int) + 1 - 20)) + 20 * (2 * (b : Int) + 1 - 24) * (20 * (2 * (b : Int) + 1 - 24)) ≤ 230400) = shB a b := by
      unfold shB
      rw [decide_eq_false h12, Bool.false_or]
      congr 1
      have h1 : 24 * (2 * (a : Int) + 1 - 20) * (24 * (2 * (a : Int) + 1 - 20)) = 576 * (2 * (a : Int) - 19) * (2 * (a : Int) - 19) := by
        rw [show 2 * (a : Int) + 1 - 20 = 2 * (a : Int) - 19 by omega]
        generalize 2 * (a : Int) - 19 = z
        rw [Int.mul_assoc, Int.mul_left_comm z 24 z, ← Int.mul_assoc, ← Int.mul_assoc]; rfl
      have h2 : 20 * (2 * (b : Int) + 1 - 24) * (20 * (2 * (b : Int) + 1 - 24)) = 400 * (2 * (b : Int) - 23) * (2 * (b : Int) - 23) := by
        rw [show 2 * (b : Int) + 1 - 24 = 2 * (b : Int) - 23 by omega]
        generalize 2 * (b : Int) - 23 = z
        rw [Int.mul_assoc, Int.mul_left_comm z 20 z, ← Int.mul_assoc, ← Int.mul_assoc]; rfl
      rw [h1, h2]
    go_enter Tryd.func98, Tryd.ntmps98
    go_wp2_with fail
    go_ret
    exact ⟨by first | rfl | rw [hq], rfl⟩
theorem l9In_any (x y : Int) (w : World) :
    Calls Tryd.prog 94 #[.int .i64 x, .int .i64 y] w fun e w' => e = .returned (.bool (shZ x y)) ∧ w = w' := by
  obtain ⟨px, hpx⟩ : ∃ p, decide (0 ≤ x ∧ x ≤ 19) = p := ⟨_, rfl⟩
  obtain ⟨py, hpy⟩ : ∃ p, decide (0 ≤ y ∧ y ≤ 23) = p := ⟨_, rfl⟩
  have CX := Lib.hid (fun W => in_any x 0 19 W px hpx)
  have CY := Lib.hid (fun W => in_any y 0 23 W py hpy)
  have hs : shZ x y = (px && (py && shB x.toNat y.toNat)) := by unfold shZ; rw [hpx, hpy]
  rw [hs]
  clear hs
  cases px
  · clear hpx hpy
    go_enter Tryd.func94, Tryd.ntmps94
    go_wp2_with fail
    refine (CX.out _).mono ?_
    rintro e w' ⟨rfl, rfl⟩
    go_wp2_with fail
    go_ret
    exact ⟨rfl, rfl⟩
  cases py
  · clear hpx hpy
    go_enter Tryd.func94, Tryd.ntmps94
    go_wp2_with fail
    refine (CX.out _).mono ?_
    rintro e w' ⟨rfl, rfl⟩
    go_wp2_with fail
    refine (CY.out _).mono ?_
    rintro e w' ⟨rfl, rfl⟩
    go_wp2_with fail
    go_ret
    exact ⟨rfl, rfl⟩
  have hx := of_decide_eq_true hpx
  have hy := of_decide_eq_true hpy
  clear hpx hpy
  obtain ⟨a, rfl⟩ : ∃ a : Nat, x = a := ⟨x.toNat, by omega⟩
  obtain ⟨b, rfl⟩ : ∃ b : Nat, y = b := ⟨y.toNat, by omega⟩
  simp only [Bool.true_and, Int.toNat_natCast]
  have ha := hx.2
  have hb := hy.2
  clear hx hy
  by_cases h12 : b < 12
  · rw [show shB a b = true by unfold shB; rw [decide_eq_true h12]; rfl]
    have e5 : decide ((b : Int) < 12) = true := by simp; omega
    go_enter Tryd.func94, Tryd.ntmps94
    go_wp2_with fail
    refine (CX.out _).mono ?_
    rintro e w' ⟨rfl, rfl⟩
    go_wp2_with fail
    refine (CY.out _).mono ?_
    rintro e w' ⟨rfl, rfl⟩
    go_wp2_with fail
    go_ret
    exact ⟨rfl, rfl⟩
  · have e5 : decide ((b : Int) < 12) = false := by simp; omega
    have q1 := sq_bound (2 * (a : Int) - 19) 19 (by omega) (by omega)
    have q2 := sq_bound (2 * (b : Int) - 23) 23 (by omega) (by omega)
    have r1 : 576 * (2 * (a : Int) - 19) * (2 * (a : Int) - 19) = 576 * ((2 * (a : Int) - 19) * (2 * (a : Int) - 19)) := Int.mul_assoc _ _ _
    have r2 : 400 * (2 * (b : Int) - 23) * (2 * (b : Int) - 23) = 400 * ((2 * (b : Int) - 23) * (2 * (b : Int) - 23)) := Int.mul_assoc _ _ _
    have hq : decide (576 * ((2 * (a : Int) - 19) * (2 * (a : Int) - 19)) + 400 * ((2 * (b : Int) - 23) * (2 * (b : Int) - 23)) ≤ 230400) = shB a b := by
      unfold shB
      rw [decide_eq_false h12, Bool.false_or, r1, r2]
    go_enter Tryd.func94, Tryd.ntmps94
    go_wp2_with fail
    refine (CX.out _).mono ?_
    rintro e w' ⟨rfl, rfl⟩
    go_wp2_with fail
    refine (CY.out _).mono ?_
    rintro e w' ⟨rfl, rfl⟩
    go_wp2_with fail
    go_ret
    exact ⟨by first | rfl | rw [hq], rfl⟩
end Go.Proofs.YthapidnjioindaaDoor
namespace Go.Proofs.YthapidnjioindaaDoor
end Go.Proofs.YthapidnjioindaaDoor
namespace Go.Proofs.YthapidnjioindaaDoor
open Go.RowKit

/-- An answer that is a region of these rows, in memory of its own. -/
def AnsR (W : World) (f : Nat → Nat) (e : Ending) (w' : World) : Prop := ∃ g : Nat, e = .returned (.agg #[.slice (some ⟨g, 0, none⟩) 24 24]) ∧ OwnI w' W.heap.size (some ⟨g, 0, none⟩) 24 24 (rowsOfR f) ∧ Below W.heap.size W w'
theorem wrap_pow {x : Nat} (h : 2 ^ x < 1048576) : wrap64 ((2 : Int) ^ x) = ((2 ^ x : Nat) : Int) := by
  have e : ((2 : Int) ^ x) = ((2 ^ x : Nat) : Int) := by simp
  rw [e]
  generalize 2 ^ x = m at h ⊢
  unfold wrap64
  omega
theorem rows24_int (p : Nat → Nat → Bool) (y x : Nat) : ((stR p y x).map (Value.int .i64)).length = 24 := by simp [stR_len]

set_option maxRecDepth 100000 in
set_option maxHeartbeats 4000000 in
theorem whereIn (p : Nat → Nat → Bool) (w : World) (HF : ∀ W, Below w.heap.size w W → ∀ x y : Nat, x < 20 → y < 24 → Calls Tryd.prog 98 #[.int .i64 (x : Int), .int .i64 (y : Int)] W fun e w' => e = .returned (.bool (p x y)) ∧ Below W.heap.size W w') :
    Calls Tryd.prog 97 #[.func (.func 98) #[] #[]] w (AnsR w (regN p)) := by
  obtain ⟨i0, hi, hz0, hz1, hz2⟩ := info_parts infoI
  have CF := Lib.hid HF
  have b0 := BoxF.new w [.slice none 0 0] 26
  have hb0 : Below w.heap.size w (w.alloc (.cells #[.slice none 0 0] 26 (0, 0))) := (Below.refl _ w).alloc (Nat.le_refl _) _
  have HB0 := Lib.hid hb0
  have X0 := Lib.hid b0
  clear HF b0 hb0
  go_enter Tryd.func97, Tryd.ntmps97
  go_wp2_with (at_make; refine wpList_make_full _ rfl _ _ 24 rfl (w.heap.size + 1) 3 i0 (.int .i64 0) 1 Tryd.underlying24 hi hz0 hz1 .i64 .i64 24 24 24 rfl rfl rfl rfl (by rw [hz2]; omega) (by unfold maxLen; omega) (by simp) ?_; intro w1 hown1 hgr1)
  have hfil : OwnI w1 (w.heap.size + 1) (some ⟨w.heap.size + 1, 0, none⟩) 24 24 (stR p 0 0) := by
    unfold OwnI
    rw [stR_start, List.map_replicate, ← toList_madeCells_one]
    rw [Nat.mul_one] at hown1
    simp only [World.size_alloc] at hown1
    exact hown1
  have X1 := Lib.hid (X0.out.kept hgr1 (by simp))
  have HB1 := Lib.hid (HB0.out.grown hgr1 (by simp) (by simp))
  have HO1 := Lib.hid hfil
  clear hown1 hgr1 X0 HB0 hfil
  go_wp2_with fail
  go_loopw [9] (fun i wr => ∃ y : Nat, y ≤ 24 ∧ i = .int .i64 (y : Int) ∧ Hid (OwnI wr (w.heap.size + 1) (some ⟨w.heap.size + 1, 0, none⟩) 24 24 (stR p y 0)) ∧ Hid (BoxF wr w.heap.size [.slice none 0 0] 26) ∧ Hid (Below w.heap.size w wr)) (fun i _ => 24 - (intOf i).toNat)
  case atStart => exact ⟨0, by omega, rfl, HO1, X1, HB1⟩
  case round =>
    obtain ⟨y, hy, rfl, HO, HX, HB⟩ := hrel
    clear HO1 X1 HB1
    by_cases hlt : y < 24
    · have ely : decide ((y : Int) < 24) = true := decide_eq_true (by omega)
      go_wp2_with fail
      go_loopw [12] (fun i wr => ∃ x : Nat, x ≤ 20 ∧ i = .int .i64 (x : Int) ∧ Hid (OwnI wr (w.heap.size + 1) (some ⟨w.heap.size + 1, 0, none⟩) 24 24 (stR p y x)) ∧ Hid (BoxF wr w.heap.size [.slice none 0 0] 26) ∧ Hid (Below w.heap.size w wr)) (fun i _ => 20 - (intOf i).toNat)
      case atStart => exact ⟨0, by omega, rfl, HO, HX, HB⟩
      case round =>
        obtain ⟨x, hx, rfl, HO, HX, HB⟩ := hrel
        by_cases hlx : x < 20
        · have elx : decide ((x : Int) < 20) = true := decide_eq_true (by omega)
          go_wp2_with fail
          refine (inShield_impl _ _ _).mono ?_
          rintro e w2 ⟨rfl, rfl⟩
          rw [shZ_nat hlx hlt]
          have hs := stR_skip p (y := y) (x := x)
          have hset := stR_set p (x := x) hlt
          cases h1 : shB x y
          · have hs := Lib.hid (hs (by rw [h1]; rfl))
            clear hset
            go_wp2_with fail
            go_roundw
            case rel => exact ⟨x + 1, by omega, by go_num, by rw [hs.out]; exact HO, HX, HB⟩
            case measure => simp [intOf]; omega
          · go_wp2_with fail
            refine (CF.out _ HB.out x y hlx hlt).mono ?_
            rintro e w2 ⟨rfl, hb2⟩
            have HO2 := Lib.hid (HO.out.below hb2)
            have HX2 := Lib.hid (HX.out.below hb2)
            have HB2 := Lib.hid (HB.out.trans (hb2.mono HB.out.size))
            clear hb2 HO HX HB
            cases h2 : p x y
            · have hs := Lib.hid (hs (by rw [h2]; simp))
              clear hset
              go_wp2_with fail
              go_roundw
              case rel => exact ⟨x + 1, by omega, by go_num, by rw [hs.out]; exact HO2, HX2, HB2⟩
              case measure => simp [intOf]; omega
            · obtain ⟨N, hN⟩ : ∃ N, rowN (fun i => shB i y && p i y) x = N := ⟨_, rfl⟩
              have hat := stR_at p x hlt
              have hlN := rowN_ltk (fun i => shB i y && p i y) hx
              have hor := rowN_or (fun i => shB i y && p i y) x
              rw [hN] at hset hat hlN hor
              have hp2 : 2 ^ x < 1048576 := by
                have := Nat.pow_lt_pow_right (a := 2) (by decide) hlx
                omega
              have hor := i64_or_nat N (2 ^ x) (by omega) (by omega) |>.trans (congrArg _ hor)
              have hc1 := (HO2.out.cellAt y hlt)
              rw [List.getElem?_map, hat] at hc1
              simp only [Option.map_some] at hc1
              have hf1 := HO2.out.frozenAt y
              clear hs hat hN
              have HF1 := Lib.hid hf1
              have HOR := Lib.hid hor
              have HSET := Lib.hid (hset (by rw [h1, h2]; rfl))
              clear hlN hor hset hf1
              go_wp2_with fail
              have hf1 := HF1.out
              have hor := HOR.out
              go_region
              rw [wrap_pow hp2, hor]
              have HO3 := HO2.out.stored y (.int .i64 (((N + 2 ^ x : Nat)) : Int))
              have HX3 := Lib.hid (HX2.out.kept HO3.2 (by simp))
              have HB3 := Lib.hid (HB2.out.grown HO3.2 HB2.out.size (fun q hq => by cases hq; omega))
              have HO4 := Lib.hid (show OwnI (w2.setCell ⟨w.heap.size + 1, y, none⟩ (.int .i64 (((N + 2 ^ x : Nat)) : Int))) (w.heap.size + 1) (some ⟨w.heap.size + 1, 0, none⟩) 24 24 (stR p y (x + 1)) by
                rw [← HSET.out]
                unfold OwnI
                rw [List.map_set]
                exact HO3.1)
              clear HO3 HX2 HB2 HO2 hor hf1 HF1 HOR hc1 HSET
              have HO5 := Lib.hid (HO4.out.drewN 1)
              have HX5 := Lib.hid (HX3.out.drew 1)
              have HB5 := Lib.hid (below_drewN' HB3.out 1)
              clear HO4 HX3 HB3
              go_wp2_with fail
              go_roundw
              case rel => exact ⟨x + 1, by omega, by go_num, HO5, HX5, HB5⟩
              case measure => simp [intOf]; omega
        · have elx : decide ((x : Int) < 20) = false := decide_eq_false (by omega)
          obtain rfl : x = 20 := by omega
          rw [stR_next] at HO
          go_wp2_with fail
          go_roundw
          case rel => exact ⟨y + 1, by omega, by go_num, HO, HX, HB⟩
          case measure => simp [intOf]; omega
    · have ely : decide ((y : Int) < 24) = false := decide_eq_false (by omega)
      obtain rfl : y = 24 := by omega
      rw [stR_all] at HO
      obtain ⟨c0, f0⟩ := HX.out.one
      have hf0 := f0 0
      have X9 := HX.out.set 0 (.slice (some ⟨w.heap.size + 1, 0, none⟩) 24 24)
      obtain ⟨z0, _⟩ := X9.one
      have HG := grownBy_set wr w.heap.size 0 (.slice (some ⟨w.heap.size + 1, 0, none⟩) 24 24)
      have HO9 := Lib.hid ((HO.out.low (B' := w.heap.size) (by omega)).kept HG (by right; simp [Value.ownBlock]))
      have HB9 := Lib.hid (HB.out.grown HG HB.out.size (fun q hq => by cases hq; exact Nat.le_refl _))
      clear X9 HG HO HX HB f0
      go_wp2_with fail
      exact bodyPost_ret (v := .agg #[.slice (some ⟨w.heap.size + 1, 0, none⟩) 24 24]) (by simp [results, Tryd.results97, go_sem, z0]) rfl ⟨_, rfl, HO9.out, HB9.out⟩


end Go.Proofs.YthapidnjioindaaDoor
