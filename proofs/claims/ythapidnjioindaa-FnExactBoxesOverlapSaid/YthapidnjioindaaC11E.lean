/- Contracts: whether a box is valid and lies in a region, the program's. -/
import Derived.Test.YthapidnjioindaaC11K
namespace Go.Proofs.Ythapidnjioindaa
open Go.RowKit

theorem whole_allN {x y n : Nat} (hx : x + n ≤ 20) (hy : y + n ≤ 24) : whole (cellF allN) x y n = whole (tb shN) x y n := by
  rw [Bool.eq_iff_iff, whole_iff, whole_iff]
  have q : ∀ j, j < n → ∀ i, i < n → cellF allN (x + i) (y + j) = tb shN (x + i) (y + j) := fun j hj i hi => by
    unfold cellF tb
    rw [shZ_nat (by omega) (by omega), allN_bit (by omega), Bool.and_true]
    unfold shN
    rw [rowN_bit, decide_eq_true (show x + i < 20 by omega)]; rfl
  constructor
  · intro h j hj i hi; rw [← q j hj i hi]; exact h j hj i hi
  · intro h j hj i hi; rw [q j hj i hi]; exact h j hj i hi
theorem shZ_outB {x y : Int} (h : 20 ≤ x ∨ 24 ≤ y) : shZ x y = false := by
  unfold shZ
  rcases h with h | h
  · rw [decide_eq_false (by omega)]; rfl
  · rw [decide_eq_false (p := 0 ≤ y ∧ y ≤ 23) (by omega)]; simp
theorem boxB_in {x y n : Nat} (h1 : 1 ≤ n) (h8 : n ≤ 8) (hx : x + n ≤ 20) (hy : y + n ≤ 24) : boxB (x : Int) (y : Int) (n : Int) = whole (tb shN) x y n := by
  unfold boxB
  rw [decide_eq_true (by omega), decide_eq_true (by omega), decide_eq_true (by omega)]
  simp only [Bool.true_and, Int.toNat_natCast]
  exact whole_allN hx hy
theorem boxB_out {x y n : Int} (h : ¬ ((1 ≤ n ∧ n ≤ 8) ∧ 0 ≤ x ∧ x ≤ 20 - n ∧ 0 ≤ y ∧ y ≤ 24 - n)) : boxB x y n = false := by
  unfold boxB
  by_cases h1 : 1 ≤ n ∧ n ≤ 8
  · by_cases h2 : 0 ≤ x ∧ x ≤ 19
    · by_cases h3 : 0 ≤ y ∧ y ≤ 23
      · have hw : whole (cellF allN) x.toNat y.toNat n.toNat = false := by
          refine whole_no (i := n.toNat - 1) (j := n.toNat - 1) (by omega) (by omega) ?_
          unfold cellF
          rw [shZ_outB (by omega)]; rfl
        rw [hw]; simp
      · rw [decide_eq_false h3]; simp
    · rw [decide_eq_false h2]; simp
  · rw [decide_eq_false h1]; rfl
theorem boxB_yes {x y n : Int} (h : boxB x y n = true) : ∃ a b k : Nat, x = a ∧ y = b ∧ n = k ∧ 1 ≤ k ∧ k ≤ 8 ∧ a + k ≤ 20 ∧ b + k ≤ 24 ∧ whole (tb shN) a b k = true := by
  by_cases hq : (1 ≤ n ∧ n ≤ 8) ∧ 0 ≤ x ∧ x ≤ 20 - n ∧ 0 ≤ y ∧ y ≤ 24 - n
  · refine ⟨x.toNat, y.toNat, n.toNat, by omega, by omega, by omega, by omega, by omega, by omega, by omega, ?_⟩
    rw [← boxB_in (by omega) (by omega) (by omega) (by omega)]
    rw [show ((x.toNat : Nat) : Int) = x by omega, show ((y.toNat : Nat) : Int) = y by omega, show ((n.toNat : Nat) : Int) = n by omega]
    exact h
  · rw [boxB_out hq] at h; cases h
theorem boxSize_any (n : Int) (w : World) (p : Bool) (hp : decide (1 ≤ n ∧ n ≤ 8) = p) :
    Calls Try.prog 20 #[.int .i64 n] w fun e w' => e = .returned (.bool p) ∧ w = w' := by
  obtain ⟨p1, e1⟩ : ∃ p, decide (1 ≤ n) = p := ⟨_, rfl⟩
  obtain ⟨p2, e2⟩ : ∃ p, decide (n ≤ 8) = p := ⟨_, rfl⟩
  have hR : (p1 && p2) = p := by rw [← hp, ← e1, ← e2]; by_cases h : 1 ≤ n <;> by_cases h' : n ≤ 8 <;> simp [h, h']
  clear hp
  subst hR
  cases p1
  all_goals
    go_enter Try.func20, Try.ntmps20
    go_wp2_with fail
    go_ret
    exact ⟨by first | rfl | simp, rfl⟩
theorem wrap_mask {n x : Nat} (hn : n ≤ 8) (hx : x ≤ 20) : wrap64 (wrap64 (wrap64 ((2 : Int) ^ n) - 1) * 2 ^ x) = ((maskN n x : Nat) : Int) := by
  have e1 : ((2 : Int) ^ n) = ((2 ^ n : Nat) : Int) := by simp
  have e2 : ((2 : Int) ^ x) = ((2 ^ x : Nat) : Int) := by simp
  have h1 : 1 ≤ 2 ^ n := Nat.one_le_two_pow
  have h2 : 2 ^ n ≤ 2 ^ 8 := Nat.pow_le_pow_right (by omega) hn
  have h3 := maskN_lt hn hx
  rw [e1, e2]
  have e3 : wrap64 ((2 ^ n : Nat) : Int) = ((2 ^ n : Nat) : Int) := by
    generalize 2 ^ n = m at *
    unfold wrap64; omega
  have e4 : wrap64 (((2 ^ n : Nat) : Int) - 1) = ((2 ^ n - 1 : Nat) : Int) := by
    generalize 2 ^ n = m at *
    unfold wrap64; omega
  have e5 : ((2 ^ n - 1 : Nat) : Int) * ((2 ^ x : Nat) : Int) = ((maskN n x : Nat) : Int) := by
    unfold maskN
    rw [Int.natCast_mul, Int.mul_comm]
  rw [e3, e4, e5]
  generalize maskN n x = m at *
  unfold wrap64; omega
theorem rowMask_any (x n : Nat) (y : Int) (w : World) (hn1 : 1 ≤ n) (hn : n ≤ 8) (hx : x + n ≤ 20) :
    Calls Try.prog 33 #[.agg #[.int .i64 (x : Int), .int .i64 y, .int .i64 (n : Int)]] w fun e w' => e = .returned (.int .i64 ((maskN n x : Nat) : Int)) ∧ Below w.heap.size w w' := by
  have XA := BoxF.new w [.int .i64 (x : Int), .int .i64 y, .int .i64 (n : Int)] 25
  have hb := (Below.refl _ w).alloc (Nat.le_refl _) (.cells #[.int .i64 (x : Int), .int .i64 y, .int .i64 (n : Int)] 25 (0, 0))
  have d0 := XA.at 0
  have d2 := XA.at 2
  simp only [List.getElem?_cons_zero, List.getElem?_cons_succ] at d0 d2
  have HB := Lib.hid hb
  clear XA hb
  go_enter Try.func33, Try.ntmps33
  go_wp2_with fail
  go_region
  go_wp2_with fail
  go_ret
  exact ⟨by show Ending.returned (.int .i64 (wrap64 (wrap64 (wrap64 ((2 : Int) ^ n) - 1) * 2 ^ x))) = _; rw [wrap_mask hn (by omega)], below_drewN' HB.out 1⟩
/-- The test of a row, as the program puts it. -/
theorem row_test {F : Nat → Nat} {n x j : Nat} (hn : n ≤ 8) (hx : x ≤ 20) (hF : F j < 1048576) {r : Bool} (hr : (∀ i, i < n → (F j).testBit (x + i) = true) ↔ r = true) : (bits .andNot .i64 ((maskN n x : Nat) : Int) ((F j : Nat) : Int) != 0) = !r := by
  have hm := maskN_lt hn hx
  rw [i64_andNot_nat _ _ hm (by omega)]
  have h := row_whole hn hx hF
  rw [hr] at h
  generalize lessN (maskN n x) (F j) = m at *
  cases r
  · have : m ≠ 0 := fun e => by have := h.1 e; cases this
    simp; omega
  · have : m = 0 := h.2 rfl
    simp [this]
set_option maxRecDepth 100000 in
set_option maxHeartbeats 4000000 in
theorem within_any (F : Nat → Nat) (x y n : Nat) (a : Option Addr) (c : Nat) (w : World) (h : RdI w a 24 (rowsOfR F)) (hF : ∀ j, j < 24 → F j < 1048576) (hc24 : 24 ≤ c) (hn1 : 1 ≤ n) (hn : n ≤ 8) (hx : x + n ≤ 20) (hy : y + n ≤ 24) :
    Calls Try.prog 21 #[.agg #[.int .i64 (x : Int), .int .i64 (y : Int), .int .i64 (n : Int)], .slice a 24 c] w fun e w' => e = .returned (.bool (whole (tb F) x y n)) ∧ Below w.heap.size w w' := by
  have XA := BoxF.new w [.int .i64 (x : Int), .int .i64 (y : Int), .int .i64 (n : Int)] 25
  have hb := (Below.refl _ w).alloc (Nat.le_refl _) (.cells #[.int .i64 (x : Int), .int .i64 (y : Int), .int .i64 (n : Int)] 25 (0, 0))
  have HX0 := Lib.hid XA
  have HB0 := Lib.hid hb
  have HR := Lib.hid h
  have HF := Lib.hid hF
  obtain ⟨b, o, rfl, _, _⟩ := h.2 (by omega)
  clear h hb XA hF
  have d1 := HX0.out.at 1
  have d2 := HX0.out.at 2
  simp only [List.getElem?_cons_zero, List.getElem?_cons_succ] at d1 d2
  have ew : wrap64 ((y : Int) + (n : Int)) = (y : Int) + (n : Int) := by unfold wrap64; omega
  have ec : c ≠ y := by omega
  have CM := Lib.hid (fun W => rowMask_any x n (y : Int) W hn1 hn hx)
  go_enter Try.func21, Try.ntmps21
  go_wp2_with fail
  clear d1 d2
  rw [Nat.add_sub_cancel_left]
  go_loopw [17] (fun i wr => ∃ j : Nat, j ≤ n ∧ i = .int .i64 (j : Int) ∧ Hid (BoxF wr w.heap.size [.int .i64 (x : Int), .int .i64 (y : Int), .int .i64 (n : Int)] 25) ∧ Hid (Below w.heap.size w wr) ∧ Hid (∀ j', j' < j → ∀ i', i' < n → tb F (x + i') (y + j') = true)) (fun i _ => n - (intOf i).toNat)
  case atStart => exact ⟨0, by omega, rfl, HX0, HB0, Lib.hid (fun j hj => by omega)⟩
  case round =>
    clear HX0 HB0
    obtain ⟨j, hj, rfl, HX, HB, HU⟩ := hrel
    by_cases hlt : j < n
    · have elt : decide ((j : Int) < (n : Int)) = true := decide_eq_true (by omega)
      have d0 := HX.out.at 0
      have d1 := HX.out.at 1
      have d2 := HX.out.at 2
      simp only [List.getElem?_cons_zero, List.getElem?_cons_succ] at d0 d1 d2
      obtain ⟨b_, o_, e_, _, hc⟩ := (HR.out.below HB.out).2 (by omega)
      cases e_
      have x2 := hc (y + j) (by omega)
      rw [rowsOfR_getD F (by omega), ← Nat.add_assoc] at x2
      have hN := HF.out (y + j) (by omega)
      clear hc
      obtain ⟨r, hr⟩ : ∃ r, decide (∀ i, i < n → (F (y + j)).testBit (x + i) = true) = r := ⟨_, rfl⟩
      have ht := row_test hn (show x ≤ 20 by omega) hN (r := r) (by rw [← hr]; simp)
      cases r
      · have HW := Lib.hid (show whole (tb F) x y n = false by
          cases hw : whole (tb F) x y n
          · rfl
          · exact absurd (fun i hi => whole_iff.1 hw j hlt i hi) (of_decide_eq_false hr))
        clear hr
        generalize F (y + j) = N at *
        go_wp2_with fail
        refine (CM.out _).mono ?_
        rintro e w2 ⟨rfl, hb2⟩
        have HB2 := Lib.hid (HB.out.trans (hb2.mono HB.out.size))
        clear hb2 d0 d1 d2 x2
        go_wp2_with fail
        go_ret
        exact ⟨by rw [HW.out] <;> rfl, HB2.out⟩
      · have HT := Lib.hid (show ∀ i, i < n → tb F (x + i) (y + j) = true from of_decide_eq_true hr)
        clear hr
        generalize F (y + j) = N at ht hN x2
        go_wp2_with fail
        refine (CM.out _).mono ?_
        rintro e w2 ⟨rfl, hb2⟩
        have HB2 := Lib.hid (HB.out.trans (hb2.mono HB.out.size))
        have HX2 := Lib.hid (HX.out.below hb2)
        clear hb2 d0 d1 d2 x2
        go_wp2_with fail
        go_roundw
        case rel =>
          refine ⟨j + 1, by omega, by go_num, HX2, HB2, Lib.hid (fun j' hj' => ?_)⟩
          by_cases e : j' = j
          · rw [e]; exact HT.out
          · exact HU.out j' (by omega)
        case measure => simp [intOf]; omega
    · have elt : decide ((j : Int) < (n : Int)) = false := decide_eq_false (by omega)
      obtain rfl : j = n := by omega
      have HW := Lib.hid (show whole (tb F) x y j = true from whole_iff.2 HU.out)
      go_wp2_with fail
      go_ret
      exact ⟨by rw [HW.out] <;> rfl, HB.out⟩
end Go.Proofs.Ythapidnjioindaa
