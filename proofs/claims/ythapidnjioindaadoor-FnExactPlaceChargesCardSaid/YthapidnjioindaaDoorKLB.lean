/- Several small texts in one: C11K, C11E, C11F. -/
import Derived.Test.YthapidnjioindaaDoorKLA
import Derived.Deep.DeepCutAuto
import Derived.Deep.RegionHeld3
namespace Go.Proofs.YthapidnjioindaaDoor
open Go.RowKit

/-- The box is valid. -/
def boxB (x y n : Int) : Bool := decide (1 ≤ n ∧ n ≤ 8) && (decide (0 ≤ x ∧ x ≤ 19) && (decide (0 ≤ y ∧ y ≤ 23) && whole (cellF allN) x.toNat y.toNat n.toNat))
theorem allN_lt (j : Nat) (_ : j < 24) : allN j < 1048576 := by unfold allN; omega
theorem allN_bit {i : Nat} (hi : i < 20) (j : Nat) : (allN j).testBit i = true := by
  show (2 ^ 20 - 1 : Nat).testBit i = true
  rw [Nat.testBit_two_pow_sub_one]; simpa using hi
end Go.Proofs.YthapidnjioindaaDoor
namespace Go.Proofs.YthapidnjioindaaDoor
open Go.RowKit

theorem whole_allN {x y n : Nat} (hx : x + n ≤ 20) (hy : y + n ≤ 24) : whole (cellF allN) x y n = whole (tb shN) x y n := by
  rw [Bool.eq_iff_iff, whole_iff, whole_iff]
  have q : ∀ j, j < n → ∀ i, i < n → cellF allN (x + i) (y + j) = tb shN (x + i) (y + j) := fun j hj i hi => by
    unfold cellF tb
    rw [shZ_nat (by omega) (by omega), allN_bit (by omega), Bool.and_true]
    unfold shN
    rw [rowN_bit, decide_eq_true (show x + i < 20 by omega)]; rfl
  constructor
  · intro h j hj i hi; rw [← q j hj i hi]; exact h j hj i hi
  · intro h j hj i hi; rw [q j hj i hi]; exact h j hj i hi
theorem shZ_outB {x y : Int} (h : 20 ≤ x ∨ 24 ≤ y) : shZ x y = false := by
  unfold shZ
  rcases h with h | h
  · rw [decide_eq_false (by omega)]; rfl
  · rw [decide_eq_false (p := 0 ≤ y ∧ y ≤ 23) (by omega)]; simp
theorem boxB_in {x y n : Nat} (h1 : 1 ≤ n) (h8 : n ≤ 8) (hx : x + n ≤ 20) (hy : y + n ≤ 24) : boxB (x : Int) (y : Int) (n : Int) = whole (tb shN) x y n := by
  unfold boxB
  rw [decide_eq_true (by omega), decide_eq_true (by omega), decide_eq_true (by omega)]
  simp only [Bool.true_and, Int.toNat_natCast]
  exact whole_allN hx hy
theorem boxB_out {x y n : Int} (h : ¬ ((1 ≤ n ∧ n ≤ 8) ∧ 0 ≤ x ∧ x ≤ 20 - n ∧ 0 ≤ y ∧ y ≤ 24 - n)) : boxB x y n = false := by
  unfold boxB
  by_cases h1 : 1 ≤ n ∧ n ≤ 8
  · by_cases h2 : 0 ≤ x ∧ x ≤ 19
    · by_cases h3 : 0 ≤ y ∧ y ≤ 23
      · have hw : whole (cellF allN) x.toNat y.toNat n.toNat = false := by
          refine whole_no (i := n.toNat - 1) (j := n.toNat - 1) (by omega) (by omega) ?_
          unfold cellF
          rw [shZ_outB (by omega)]; rfl
        rw [hw]; simp
      · rw [decide_eq_false h3]; simp
    · rw [decide_eq_false h2]; simp
  · rw [decide_eq_false h1]; rfl
theorem boxB_yes {x y n : Int} (h : boxB x y n = true) : ∃ a b k : Nat, x = a ∧ y = b ∧ n = k ∧ 1 ≤ k ∧ k ≤ 8 ∧ a + k ≤ 20 ∧ b + k ≤ 24 ∧ whole (tb shN) a b k = true := by
  by_cases hq : (1 ≤ n ∧ n ≤ 8) ∧ 0 ≤ x ∧ x ≤ 20 - n ∧ 0 ≤ y ∧ y ≤ 24 - n
  · refine ⟨x.toNat, y.toNat, n.toNat, by omega, by omega, by omega, by omega, by omega, by omega, by omega, ?_⟩
    rw [← boxB_in (by omega) (by omega) (by omega) (by omega)]
    rw [show ((x.toNat : Nat) : Int) = x by omega, show ((y.toNat : Nat) : Int) = y by omega, show ((n.toNat : Nat) : Int) = n by omega]
    exact h
  · rw [boxB_out hq] at h; cases h
theorem boxSize_any (n : Int) (w : World) (p : Bool) (hp : decide (1 ≤ n ∧ n ≤ 8) = p) :
    Calls Tryd.prog 51 #[.int .i64 n] w fun e w' => e = .returned (.bool p) ∧ w = w' := by
  obtain ⟨p1, e1⟩ : ∃ p, decide (1 ≤ n) = p := ⟨_, rfl⟩
  obtain ⟨p2, e2⟩ : ∃ p, decide (n ≤ 8) = p := ⟨_, rfl⟩
  have hR : (p1 && p2) = p := by rw [← hp, ← e1, ← e2]; by_cases h : 1 ≤ n <;> by_cases h' : n ≤ 8 <;> simp [h, h']
  clear hp
  subst hR
  cases p1
  all_goals
    go_enter Tryd.func51, Tryd.ntmps51
    go_wp2_with fail
    go_ret
    exact ⟨by first | rfl | simp, rfl⟩
theorem wrap_mask {n x : Nat} (hn : n ≤ 8) (hx : x ≤ 20) : wrap64 (wrap64 (wrap64 ((2 : Int) ^ n) - 1) * 2 ^ x) = ((maskN n x : Nat) : Int) := by
  have e1 : ((2 : Int) ^ n) = ((2 ^ n : Nat) : Int) := by simp
  have e2 : ((2 : Int) ^ x) = ((2 ^ x : Nat) : Int) := by simp
  have h1 : 1 ≤ 2 ^ n := Nat.one_le_two_pow
  have h2 : 2 ^ n ≤ 2 ^ 8 := Nat.pow_le_pow_right (by omega) hn
  have h3 := maskN_lt hn hx
  rw [e1, e2]
  have e3 : wrap64 ((2 ^ n : Nat) : Int) = ((2 ^ n : Nat) : Int) := by
    generalize 2 ^ n = m at *
    unfold wrap64; omega
  have e4 : wrap64 (((2 ^ n : Nat) : Int) - 1) = ((2 ^ n - 1 : Nat) : Int) := by
    generalize 2 ^ n = m at *
    unfold wrap64; omega
  have e5 : ((2 ^ n - 1 : Nat) : Int) * ((2 ^ x : Nat) : Int) = ((maskN n x : Nat) : Int) := by
    unfold maskN
    rw [Int.natCast_mul, Int.mul_comm]
  rw [e3, e4, e5]
  generalize maskN n x = m at *
  unfold wrap64; omega
theorem rowMask_any (x n : Nat) (y : Int) (w : World) (hn1 : 1 ≤ n) (hn : n ≤ 8) (hx : x + n ≤ 20) :
    Calls Tryd.prog 55 #[.agg #[.int .i64 (x : Int), .int .i64 y, .int .i64 (n : Int)]] w fun e w' => e = .returned (.int .i64 ((maskN n x : Nat) : Int)) ∧ Below w.heap.size w w' := by
  have XA := BoxF.new w [.int .i64 (x : Int), .int .i64 y, .int .i64 (n : Int)] 36
  have hb := (Below.refl _ w).alloc (Nat.le_refl _) (.cells #[.int .i64 (x : Int), .int .i64 y, .int .i64 (n : Int)] 36 (0, 0))
  have d0 := XA.at 0
  have d2 := XA.at 2
  simp only [List.getElem?_cons_zero, List.getElem?_cons_succ] at d0 d2
  have HB := Lib.hid hb
  clear XA hb
  go_enter Tryd.func55, Tryd.ntmps55
  go_wp2_with fail
  go_region
  go_wp2_with fail
  go_ret
  exact ⟨by show Ending.returned (.int .i64 (wrap64 (wrap64 (wrap64 ((2 : Int) ^ n) - 1) * 2 ^ x))) = _; rw [wrap_mask hn (by omega)], below_drewN' HB.out 1⟩
/-- The test of a row, as the program puts it. -/
theorem row_test {F : Nat → Nat} {n x j : Nat} (hn : n ≤ 8) (hx : x ≤ 20) (hF : F j < 1048576) {r : Bool} (hr : (∀ i, i < n → (F j).testBit (x + i) = true) ↔ r = true) : (bits .andNot .i64 ((maskN n x : Nat) : Int) ((F j : Nat) : Int) != 0) = !r := by
  have hm := maskN_lt hn hx
  rw [i64_andNot_nat _ _ hm (by omega)]
  have h := row_whole hn hx hF
  rw [hr] at h
  generalize lessN (maskN n x) (F j) = m at *
  cases r
  · have : m ≠ 0 := fun e => by have := h.1 e; cases this
    simp; omega
  · have : m = 0 := h.2 rfl
    simp [this]
set_option maxRecDepth 100000 in
set_option maxHeartbeats 4000000 in
theorem within_any (F : Nat → Nat) (x y n : Nat) (a : Option Addr) (c : Nat) (w : World) (h : RdI w a 24 (rowsOfR F)) (hF : ∀ j, j < 24 → F j < 1048576) (hc24 : 24 ≤ c) (hn1 : 1 ≤ n) (hn : n ≤ 8) (hx : x + n ≤ 20) (hy : y + n ≤ 24) :
    Calls Tryd.prog 59 #[.agg #[.int .i64 (x : Int), .int .i64 (y : Int), .int .i64 (n : Int)], .slice a 24 c] w fun e w' => e = .returned (.bool (whole (tb F) x y n)) ∧ Below w.heap.size w w' := by
  have XA := BoxF.new w [.int .i64 (x : Int), .int .i64 (y : Int), .int .i64 (n : Int)] 36
  have hb := (Below.refl _ w).alloc (Nat.le_refl _) (.cells #[.int .i64 (x : Int), .int .i64 (y : Int), .int .i64 (n : Int)] 36 (0, 0))
  have HX0 := Lib.hid XA
  have HB0 := Lib.hid hb
  have HR := Lib.hid h
  have HF := Lib.hid hF
  obtain ⟨b, o, rfl, _, _⟩ := h.2 (by omega)
  clear h hb XA hF
  have d1 := HX0.out.at 1
  have d2 := HX0.out.at 2
  simp only [List.getElem?_cons_zero, List.getElem?_cons_succ] at d1 d2
  have ew : wrap64 ((y : Int) + (n : Int)) = (y : Int) + (n : Int) := by unfold wrap64; omega
  have ec : c ≠ y := by omega
  have CM := Lib.hid (fun W => rowMask_any x n (y : Int) W hn1 hn hx)
  go_enter Tryd.func59, Tryd.ntmps59
  go_wp2_with fail
  clear d1 d2
  rw [Nat.add_sub_cancel_left]
  go_loopw [17] (fun i wr => ∃ j : Nat, j ≤ n ∧ i = .int .i64 (j : Int) ∧ Hid (BoxF wr w.heap.size [.int .i64 (x : Int), .int .i64 (y : Int), .int .i64 (n : Int)] 36) ∧ Hid (Below w.heap.size w wr) ∧ Hid (∀ j', j' < j → ∀ i', i' < n → tb F (x + i') (y + j') = true)) (fun i _ => n - (intOf i).toNat)
  case atStart => exact ⟨0, by omega, rfl, HX0, HB0, Lib.hid (fun j hj => by omega)⟩
  case round =>
    clear HX0 HB0
    obtain ⟨j, hj, rfl, HX, HB, HU⟩ := hrel
    by_cases hlt : j < n
    · have elt : decide ((j : Int) < (n : Int)) = true := decide_eq_true (by omega)
      have d0 := HX.out.at 0
      have d1 := HX.out.at 1
      have d2 := HX.out.at 2
      simp only [List.getElem?_cons_zero, List.getElem?_cons_succ] at d0 d1 d2
      obtain ⟨b_, o_, e_, _, hc⟩ := (HR.out.below HB.out).2 (by omega)
      cases e_
      have x2 := hc (y + j) (by omega)
      rw [rowsOfR_getD F (by omega), ← Nat.add_assoc] at x2
      have hN := HF.out (y + j) (by omega)
      clear hc
      obtain ⟨r, hr⟩ : ∃ r, decide (∀ i, i < n → (F (y + j)).testBit (x + i) = true) = r := ⟨_, rfl⟩
      have ht := row_test hn (show x ≤ 20 by omega) hN (r := r) (by rw [← hr]; simp)
      cases r
      · have HW := Lib.hid (show whole (tb F) x y n = false by
          cases hw : whole (tb F) x y n
          · rfl
          · exact absurd (fun i hi => whole_iff.1 hw j hlt i hi) (of_decide_eq_false hr))
        clear hr
        generalize F (y + j) = N at *
        go_wp2_with fail
        refine (CM.out _).mono ?_
        rintro e w2 ⟨rfl, hb2⟩
        have HB2 := Lib.hid (HB.out.trans (hb2.mono HB.out.size))
        clear hb2 d0 d1 d2 x2
        go_wp2_with fail
        go_ret
        exact ⟨by rw [HW.out] <;> rfl, HB2.out⟩
      · have HT := Lib.hid (show ∀ i, i < n → tb F (x + i) (y + j) = true from of_decide_eq_true hr)
        clear hr
        generalize F (y + j) = N at ht hN x2
        go_wp2_with fail
        refine (CM.out _).mono ?_
        rintro e w2 ⟨rfl, hb2⟩
        have HB2 := Lib.hid (HB.out.trans (hb2.mono HB.out.size))
        have HX2 := Lib.hid (HX.out.below hb2)
        clear hb2 d0 d1 d2 x2
        go_wp2_with fail
        go_roundw
        case rel =>
          refine ⟨j + 1, by omega, by go_num, HX2, HB2, Lib.hid (fun j' hj' => ?_)⟩
          by_cases e : j' = j
          · rw [e]; exact HT.out
          · exact HU.out j' (by omega)
        case measure => simp [intOf]; omega
    · have elt : decide ((j : Int) < (n : Int)) = false := decide_eq_false (by omega)
      obtain rfl : j = n := by omega
      have HW := Lib.hid (show whole (tb F) x y j = true from whole_iff.2 HU.out)
      go_wp2_with fail
      go_ret
      exact ⟨by rw [HW.out] <;> rfl, HB.out⟩
end Go.Proofs.YthapidnjioindaaDoor
namespace Go.Proofs.YthapidnjioindaaDoor
open Go.RowKit

set_option maxRecDepth 100000 in
set_option maxHeartbeats 4000000 in
theorem validBox_impl (x y n : Int) (w : World) :
    Calls Tryd.prog 16 #[.agg #[.int .i64 x, .int .i64 y, .int .i64 n]] w fun e w' => e = .returned (.bool (boxB x y n)) ∧ Below w.heap.size w w' := by
  have XA := BoxF.new w [.int .i64 x, .int .i64 y, .int .i64 n] 36
  have hb := (Below.refl _ w).alloc (Nat.le_refl _) (.cells #[.int .i64 x, .int .i64 y, .int .i64 n] 36 (0, 0))
  have d0 := XA.at 0
  have d1 := XA.at 1
  have d2 := XA.at 2
  simp only [List.getElem?_cons_zero, List.getElem?_cons_succ] at d0 d1 d2
  have HX := Lib.hid XA
  have HB := Lib.hid hb
  clear hb XA
  obtain ⟨p1, h1⟩ : ∃ p, decide (1 ≤ n ∧ n ≤ 8) = p := ⟨_, rfl⟩
  have C1 := Lib.hid (fun W => boxSize_any n W p1 h1)
  cases p1
  · rw [boxB_out (fun q => of_decide_eq_false h1 q.1)]
    clear h1
    go_enter Tryd.func16, Tryd.ntmps16
    go_wp2_with fail
    refine (C1.out _).mono ?_
    rintro e w' ⟨rfl, rfl⟩
    go_wp2_with fail
    go_ret
    exact ⟨rfl, HB.out⟩
  have g1 := of_decide_eq_true h1
  clear h1
  have hn1 := g1.1
  have hn8 := g1.2
  by_cases he1 : x < 0
  · rw [boxB_out (fun q => by omega)]
    have e1 : decide (x < 0) = true := decide_eq_true he1
    go_enter Tryd.func16, Tryd.ntmps16
    go_wp2_with fail
    refine (C1.out _).mono ?_
    rintro e w' ⟨rfl, rfl⟩
    go_wp2_with fail
    go_ret
    exact ⟨rfl, HB.out⟩
  have e1 : decide (x < 0) = false := decide_eq_false he1
  by_cases he2 : 20 - n < x
  · rw [boxB_out (fun q => by omega)]
    have e2 : decide (20 - n < x) = true := decide_eq_true he2
    go_enter Tryd.func16, Tryd.ntmps16
    go_wp2_with fail
    refine (C1.out _).mono ?_
    rintro e w' ⟨rfl, rfl⟩
    go_wp2_with fail
    go_ret
    exact ⟨rfl, HB.out⟩
  have e2 : decide (20 - n < x) = false := decide_eq_false he2
  by_cases he3 : y < 0
  · rw [boxB_out (fun q => by omega)]
    have e3 : decide (y < 0) = true := decide_eq_true he3
    go_enter Tryd.func16, Tryd.ntmps16
    go_wp2_with fail
    refine (C1.out _).mono ?_
    rintro e w' ⟨rfl, rfl⟩
    go_wp2_with fail
    go_ret
    exact ⟨rfl, HB.out⟩
  have e3 : decide (y < 0) = false := decide_eq_false he3
  by_cases he4 : 24 - n < y
  · rw [boxB_out (fun q => by omega)]
    have e4 : decide (24 - n < y) = true := decide_eq_true he4
    go_enter Tryd.func16, Tryd.ntmps16
    go_wp2_with fail
    refine (C1.out _).mono ?_
    rintro e w' ⟨rfl, rfl⟩
    go_wp2_with fail
    go_ret
    exact ⟨rfl, HB.out⟩
  have e4 : decide (24 - n < y) = false := decide_eq_false he4
  obtain ⟨z, hz⟩ : ∃ z, whole (tb shN) x.toNat y.toNat n.toNat = z := ⟨_, rfl⟩
  have hbz : boxB x y n = z := by
    rw [← hz, ← boxB_in (by omega) (by omega) (by omega) (by omega)]
    rw [show ((x.toNat : Nat) : Int) = x by omega, show ((y.toNat : Nat) : Int) = y by omega, show ((n.toNat : Nat) : Int) = n by omega]
  have CW := fun (a : Option Addr) (W : World) (h : RdI W a 24 (rowsOfR shN)) => within_any shN x.toNat y.toNat n.toNat a 24 W h (fun j _ => shN_lt j) (Nat.le_refl _) (by omega) (by omega) (by omega) (by omega)
  rw [hz, show ((x.toNat : Nat) : Int) = x by omega, show ((y.toNat : Nat) : Int) = y by omega, show ((n.toNat : Nat) : Int) = n by omega] at CW
  rw [hbz]
  have CW := Lib.hid CW
  clear hz hbz g1
  go_enter Tryd.func16, Tryd.ntmps16
  go_wp2_with fail
  refine (C1.out _).mono ?_
  rintro e w' ⟨rfl, rfl⟩
  clear C1
  go_upto_region 3 with fail
  refine wp_region_noPanic ?_
  refine wp_region_held_drew (S := fun W => BoxF W w.heap.size [.int .i64 x, .int .i64 y, .int .i64 n] 36 ∧ Below w.heap.size w W) (by kernel_rfl) ⟨HX.out, below_drewN' HB.out 1⟩ (fun hHeld => ?_)
  generalize (w.alloc (.cells #[.int .i64 x, .int .i64 y, .int .i64 n] 36 (0, 0))).drew = Wd at *
  clear hn1 hn8 e1 e2 e3 e4 he1 he2 he3 he4 d0 d1 d2
  refine wpAnyH_take (i := 0) (oi := { dst := some 33, op := _, type := _, pos := _, after := _, guard := _ }) (v := .agg #[.int .i64 x, .int .i64 y, .int .i64 n]) rfl (by kernel_rfl) (by kernel_rfl) (by kernel_rfl) (fun _ _ _ h => h) (Or.inl ⟨by rfl, ?_⟩) hHeld ?_
  · (intro w_ hSw; have c0_ := hSw.1.at 0; have c1_ := hSw.1.at 1; have c2_ := hSw.1.at 2; set_option linter.unusedSimpArgs false in simp only [List.getElem?_cons_zero, List.getElem?_cons_succ] at c0_ c1_ c2_; clear hSw; go_simp; first | done | with_reducible rfl | rfl | (intro h_; omega) | (simp only [IntKind.wrap, IntKind.bits, IntKind.signed]; omega) | (simp [IntKind.wrap, IntKind.bits, IntKind.signed]; omega))
  set_option linter.unusedSimpArgs false in try simp only [Act.put, List.setIfInBounds_toArray, List.set_cons_zero, List.set_cons_succ]
  refine wpAnyH_ready (rs := [1]) (by kernel_rfl) (by simp) ?_
  refine AllReadyH.cons rfl (fun K hK => ?_) ?_
  rotate_left
  · exact AllReadyH.nil
  try rw [if_pos (by rfl)]
  go_simp
  refine (shield_impl _).mono ?_
  rintro e w3 ⟨gA, rfl, hoA, hbA⟩
  have HOA := Lib.hid hoA
  have g0 : BoxF w3 w.heap.size [.int .i64 x, .int .i64 y, .int .i64 n] 36 ∧ Below w.heap.size w w3 := ⟨hHeld.1.below hbA, hHeld.2.trans (hbA.mono hHeld.2.size)⟩
  clear hoA hbA
  go_wp2_with fail
  refine hK.out _ _ (g0) (fun hHeld => ?_)
  clear hK K
  set_option linter.unusedSimpArgs false in try simp only [Act.put, List.setIfInBounds_toArray, List.set_cons_zero, List.set_cons_succ]

  refine wpAnyH_take (i := 2) (oi := { dst := some 35, op := _, type := _, pos := _, after := _, guard := _ }) (v := .slice (some ⟨gA, 0, none⟩) 24 24) rfl (by kernel_rfl) (by kernel_rfl) (by kernel_rfl) (fun _ _ _ h => h) (Or.inl ⟨by rfl, ?_⟩) hHeld ?_
  · (intro w_ hSw; have f_ := field_rows (some ⟨gA, 0, none⟩) 24 24 w_; clear hSw; go_simp; first | done | with_reducible rfl | rfl | (intro h_; omega) | (simp only [IntKind.wrap, IntKind.bits, IntKind.signed]; omega) | (simp [IntKind.wrap, IntKind.bits, IntKind.signed]; omega))
  set_option linter.unusedSimpArgs false in try simp only [Act.put, List.setIfInBounds_toArray, List.set_cons_zero, List.set_cons_succ]
  refine wpAnyH_ready (rs := [3]) (by kernel_rfl) (by simp) ?_
  refine AllReadyH.cons rfl (fun K hK => ?_) ?_
  rotate_left
  · exact AllReadyH.nil
  try rw [if_pos (by rfl)]
  go_simp
  refine (CW.out _ _ HOA.out.rd).mono ?_
  rintro e w4 ⟨rfl, hbB⟩
  have g1 : BoxF w4 w.heap.size [.int .i64 x, .int .i64 y, .int .i64 n] 36 ∧ Below w.heap.size w w4 := ⟨g0.1.below hbB, g0.2.trans (hbB.mono g0.2.size)⟩
  clear hbB
  go_wp2_with fail
  refine hK.out _ _ (g1) (fun hHeld => ?_)
  clear hK K
  set_option linter.unusedSimpArgs false in try simp only [Act.put, List.setIfInBounds_toArray, List.set_cons_zero, List.set_cons_succ]

  refine wpAnyH_take (i := 4) (oi := { dst := some 2, op := _, type := _, pos := _, after := _, guard := _ }) (v := .bool z) rfl (by kernel_rfl) (by kernel_rfl) (by kernel_rfl) (fun _ _ _ h => h) (Or.inl ⟨by rfl, ?_⟩) hHeld ?_
  · (intro w_ hSw; clear hSw; go_simp; first | done | with_reducible rfl | rfl | (intro h_; omega) | (simp only [IntKind.wrap, IntKind.bits, IntKind.signed]; omega) | (simp [IntKind.wrap, IntKind.bits, IntKind.signed]; omega))
  set_option linter.unusedSimpArgs false in try simp only [Act.put, List.setIfInBounds_toArray, List.set_cons_zero, List.set_cons_succ]
  refine wpAnyH_done (by kernel_rfl) ?_ _
  refine NoPanic.normal ?_
  have HB2 := Lib.hid hHeld.2
  clear hHeld
  go_wp2_with fail
  go_ret
  exact ⟨by first | rfl | simp, HB2.out⟩

/-- The box lies in the region: of rows that are those of a region, and a valid box. -/
def fitB (X : List Int) (x y n : Int) : Bool := whole (tb (fun j => (X.getD j 0).toNat)) x.toNat y.toNat n.toNat
theorem fitB_rows (V : Nat → Nat) {x y n : Nat} (hy : y + n ≤ 24) : fitB (rowsOfR V) (x : Int) (y : Int) (n : Int) = whole (tb V) x y n := by
  unfold fitB
  simp only [Int.toNat_natCast]
  have q : ∀ j, j < n → ∀ i, tb (fun j => ((rowsOfR V).getD j 0).toNat) (x + i) (y + j) = tb V (x + i) (y + j) := fun j hj i => by
    show (((rowsOfR V).getD (y + j) 0).toNat).testBit (x + i) = _
    rw [rowsOfR_getD V (by omega)]; simp [tb]
  rw [Bool.eq_iff_iff, whole_iff, whole_iff]
  constructor
  · intro h j hj i hi; rw [← q j hj i]; exact h j hj i hi
  · intro h j hj i hi; rw [q j hj i]; exact h j hj i hi
set_option maxRecDepth 100000 in
set_option maxHeartbeats 4000000 in
theorem boxFits_impl (X : List Int) (n : Nat) (a : Option Addr) (c : Nat) (x y k : Int) (w : World) (h : RdI w a n X) (hwf : WfI X) (hn : n ≤ 1048577) (hc : goodR X = true → 24 ≤ c) :
    Calls Tryd.prog 15 #[.agg #[.slice a n c], .agg #[.int .i64 x, .int .i64 y, .int .i64 k]] w fun e w' => e = .returned (.tuple #[.bool (goodR X && (boxB x y k && fitB X x y k)), .bool (goodR X && boxB x y k)]) ∧ Below w.heap.size w w' := by
  have XR := (BoxF.new w [.slice a n c] 26).alloc (.cells #[.int .i64 x, .int .i64 y, .int .i64 k] 36 (0, 0))
  have XB := BoxF.new (w.alloc (.cells #[.slice a n c] 26 (0, 0))) [.int .i64 x, .int .i64 y, .int .i64 k] 36
  have hb := ((Below.refl _ w).alloc (Nat.le_refl _) (.cells #[.slice a n c] 26 (0, 0))).alloc (by simp) (.cells #[.int .i64 x, .int .i64 y, .int .i64 k] 36 (0, 0))
  simp only [World.size_alloc] at XB
  have c1 := XR.one.1
  have HXR := Lib.hid XR
  have HXB := Lib.hid XB
  have HB := Lib.hid hb
  have HR := Lib.hid h
  have CV := Lib.hid (fun W (h : RdI W a n X) => valid_impl X n a c W h hwf hn)
  have CB := Lib.hid (fun W => validBox_impl x y k W)
  clear h XR XB hb hwf
  obtain ⟨g, hg⟩ : ∃ g, goodR X = g := ⟨_, rfl⟩
  obtain ⟨v, hv⟩ : ∃ v, boxB x y k = v := ⟨_, rfl⟩
  rw [hg] at CV ⊢
  rw [hv] at CB ⊢
  cases g
  · clear hg hv
    go_enter Tryd.func15, Tryd.ntmps15
    go_wp2_with fail
    refine (CV.out _ (HR.out.below HB.out)).mono ?_
    rintro e w1 ⟨rfl, hb1⟩
    have HB1 := Lib.hid (HB.out.trans (hb1.mono HB.out.size))
    clear hb1 c1
    go_wp2_with fail
    go_ret2
    exact ⟨rfl, HB1.out⟩
  cases v
  · clear hg hv
    go_enter Tryd.func15, Tryd.ntmps15
    go_wp2_with fail
    refine (CV.out _ (HR.out.below HB.out)).mono ?_
    rintro e w1 ⟨rfl, hb1⟩
    have HB1 := Lib.hid (HB.out.trans (hb1.mono HB.out.size))
    have XB1 := HXB.out.below hb1
    have d0 := XB1.at 0
    have d1 := XB1.at 1
    have d2 := XB1.at 2
    simp only [List.getElem?_cons_zero, List.getElem?_cons_succ] at d0 d1 d2
    clear hb1 c1 XB1
    go_wp2_with fail
    refine (CB.out _).mono ?_
    rintro e w2 ⟨rfl, hb2⟩
    have HB2 := Lib.hid (HB1.out.trans (hb2.mono HB1.out.size))
    clear hb2 d0 d1 d2
    go_wp2_with fail
    go_ret2
    exact ⟨rfl, HB2.out⟩
  have hc24 := hc hg
  clear hc
  obtain ⟨V, rfl, hV⟩ := good_out hg
  have h24 : n = 24 := by rw [← HR.out.1]; exact goodR_len hg
  subst h24
  obtain ⟨x', y', k', rfl, rfl, rfl, q1, q2, q3, q4, _⟩ := boxB_yes hv
  rw [fitB_rows V q4]
  have CW := Lib.hid (fun W (h : RdI W a 24 (rowsOfR V)) => within_any V x' y' k' a c W h (fun j hj => (hV j hj).1) hc24 q1 q2 q3 q4)
  clear hg hv hV
  generalize whole (tb V) x' y' k' = z at *
  go_enter Tryd.func15, Tryd.ntmps15
  go_wp2_with fail
  refine (CV.out _ (HR.out.below HB.out)).mono ?_
  rintro e w1 ⟨rfl, hb1⟩
  have HB1 := Lib.hid (HB.out.trans (hb1.mono HB.out.size))
  have HXB1 := Lib.hid (HXB.out.below hb1)
  have HXR1 := Lib.hid (HXR.out.below hb1)
  have d0 := HXB1.out.at 0
  have d1 := HXB1.out.at 1
  have d2 := HXB1.out.at 2
  simp only [List.getElem?_cons_zero, List.getElem?_cons_succ] at d0 d1 d2
  clear hb1 c1
  go_wp2_with fail
  refine (CB.out _).mono ?_
  rintro e w2 ⟨rfl, hb2⟩
  have HB2 := Lib.hid (HB1.out.trans (hb2.mono HB1.out.size))
  have HXB2 := Lib.hid (HXB1.out.below hb2)
  have c1 := (HXR1.out.below hb2).one.1
  have d0 := HXB2.out.at 0
  have d1 := HXB2.out.at 1
  have d2 := HXB2.out.at 2
  simp only [List.getElem?_cons_zero, List.getElem?_cons_succ] at d0 d1 d2
  clear hb2
  go_wp2_with fail
  refine (CW.out _ (HR.out.below HB2.out)).mono ?_
  rintro e w3 ⟨rfl, hb3⟩
  have HB3 := Lib.hid (HB2.out.trans (hb3.mono HB2.out.size))
  clear hb3 c1 d0 d1 d2
  go_wp2_with fail
  go_ret2
  exact ⟨by simp, HB3.out⟩
end Go.Proofs.YthapidnjioindaaDoor
