/- Contracts of the program's chapter 10: offsets, periods, turns, spots with a line. -/
import Derived.Test.YtkhpgggaaldhhaaDoorC10K
import Derived.Test.YtkhpgggaaldhhaaDoorC10S
import Derived.Test.YtkhpgggaaldhhaaDoorRVal
import Derived.Deep.RegionHeld3
import Derived.StillTailTactics
namespace Go.Proofs.YtkhpgggaaldhhaaDoor
open Go.RowKit

set_option maxHeartbeats 1000000 in
theorem curve_any (l : Int) (t b : Nat) (w : World) (hT : OffsLie w) (hc : w.cell? ⟨b, 0, none⟩ = some (.int .i64 l)) (h0 : 0 ≤ l) (h1 : l ≤ 4) (ht : t ≤ 100000) :
    Calls Tryd.prog 82 #[.int .i64 (t : Int), .pointer (some ⟨b, 0, none⟩)] w fun e w' => e = .returned (.int .i64 (offZ l t)) ∧ ∃ m, w' = w.drewN m := by
  obtain ⟨j, rfl⟩ : ∃ j : Nat, l = j := ⟨l.toNat, by omega⟩
  obtain ⟨a, hc2, hr⟩ := hT j (by omega)
  have hat := offZ_at (j : Int) t
  have hp := offL_pos (j : Int)
  have hle := offL_le (j : Int)
  obtain ⟨X, hX⟩ : ∃ X, offL (j : Int) = X := ⟨_, rfl⟩
  obtain ⟨z, hz⟩ : ∃ z, offZ (j : Int) t = z := ⟨_, rfl⟩
  rw [hz] at hat ⊢
  rw [hX] at hc2 hr hat hp hle
  obtain ⟨N, hN⟩ : ∃ N, X.length = N := ⟨_, rfl⟩
  rw [hN] at hc2 hr hat hp hle
  have hm : t % N < N := Nat.mod_lt t hp
  obtain ⟨q, o, rfl, hlt, hcc⟩ := hr.2 hp
  have hc3 := rdI_at hcc hm hat
  have em : ((t : Int)).tmod (N : Int) = ((t % N : Nat) : Int) := by rw [Int.tmod_eq_emod_of_nonneg (by omega)]; omega
  clear hcc hlt hr hat hX hz hN hT
  have hj : j = 0 ∨ j = 1 ∨ j = 2 ∨ j = 3 ∨ j = 4 := by omega
  rcases hj with rfl | rfl | rfl | rfl | rfl
  all_goals
    clear h0 h1
    go_enter Tryd.func82, Tryd.ntmps82
    go_wp2_with fail
    go_quiet (fail)
    go_wp2_with fail
    go_ret
    exact ⟨rfl, _, rfl⟩
theorem curveOf_any (l : Int) (w : World) :
    Calls Tryd.prog 49 #[.int .i64 l] w fun e w' => e = .returned (.func (.func 82) #[] #[.pointer (some ⟨w.heap.size, 0, none⟩)]) ∧ w' = w.alloc (.cells #[.int .i64 l] 3 (0, 0)) := by
  go_enter Tryd.func49, Tryd.ntmps49
  go_wp2_with fail
  go_ret
  exact ⟨rfl, rfl⟩
theorem lineOff_impl (l t : Int) (w : World) (hT : OffsLie w) :
    Calls Tryd.prog 15 #[.int .i64 l, .int .i64 t] w fun e w' => e = .returned (.tuple #[.int .i64 (if okOff l t then offZ l t.toNat else 0), .bool (okOff l t)]) ∧ Below w.heap.size w w' := by
  unfold okOff
  obtain ⟨p1, e1⟩ : ∃ p, decide (0 ≤ l ∧ l ≤ 4) = p := ⟨_, rfl⟩
  have CL := Lib.hid (fun W => isLine_any l W p1 e1)
  rw [e1]
  cases p1
  · clear e1 hT
    go_enter Tryd.func15, Tryd.ntmps15
    go_wp2_with fail
    refine (CL.out _).mono ?_
    rintro e w' ⟨rfl, rfl⟩
    go_wp2_with fail
    go_ret2
    exact ⟨by first | rfl | simp, Below.refl _ _⟩
  by_cases hn1 : t < 0
  · rw [show decide (0 ≤ t ∧ t ≤ 1000) = false from decide_eq_false (by omega)]
    have e3 : decide (t < 0) = true := decide_eq_true hn1
    clear e1 hT hn1
    go_enter Tryd.func15, Tryd.ntmps15
    go_wp2_with fail
    refine (CL.out _).mono ?_
    rintro e w' ⟨rfl, rfl⟩
    go_wp2_with fail
    go_ret2
    exact ⟨by first | rfl | simp, Below.refl _ _⟩
  have e3 : decide (t < 0) = false := decide_eq_false hn1
  by_cases hn2 : 1000 < t
  · rw [show decide (0 ≤ t ∧ t ≤ 1000) = false from decide_eq_false (by omega)]
    have e4 : decide (1000 < t) = true := decide_eq_true hn2
    clear e1 hT hn1 hn2
    go_enter Tryd.func15, Tryd.ntmps15
    go_wp2_with fail
    refine (CL.out _).mono ?_
    rintro e w' ⟨rfl, rfl⟩
    go_wp2_with fail
    go_ret2
    exact ⟨by first | rfl | simp, Below.refl _ _⟩
  have e4 : decide (1000 < t) = false := decide_eq_false hn2
  rw [show decide (0 ≤ t ∧ t ≤ 1000) = true from decide_eq_true (by omega)]
  have h1 := of_decide_eq_true e1
  obtain ⟨k, rfl⟩ : ∃ k : Nat, t = k := ⟨t.toNat, by omega⟩
  have CV := Lib.hid (fun W => curveOf_any l W)
  have hal := (Below.refl w.heap.size w).alloc (Nat.le_refl _) (.cells #[.int .i64 l] 3 (0, 0))
  have CO := Lib.hid (curve_any l k w.heap.size _ (hT.below hal) ((BoxF.new w [.int .i64 l] 3).one.1) h1.1 h1.2 (by omega))
  have HB := Lib.hid hal
  simp only [Int.toNat_natCast, Bool.and_self, if_true]
  generalize offZ l k = z at *
  clear e1 h1 hT hal hn1 hn2
  go_enter Tryd.func15, Tryd.ntmps15
  go_wp2_with fail
  refine (CL.out _).mono ?_
  rintro e w' ⟨rfl, rfl⟩
  go_wp2_with fail
  refine (CV.out _).mono ?_
  rintro e w' ⟨rfl, rfl⟩
  go_wp2_with fail
  refine CO.out.mono ?_
  rintro e w' ⟨rfl, m, rfl⟩
  go_wp2_with fail
  go_ret2
  exact ⟨rfl, below_drewN' HB.out m⟩
theorem period_impl (l : Int) (w : World) (hT : OffsLie w) :
    Calls Tryd.prog 17 #[.int .i64 l] w fun e w' => e = .returned (.tuple #[.int .i64 (if decide (0 ≤ l ∧ l ≤ 4) then ((offL l).length : Int) else 0), .bool (decide (0 ≤ l ∧ l ≤ 4))]) ∧ Below w.heap.size w w' := by
  obtain ⟨p1, e1⟩ : ∃ p, decide (0 ≤ l ∧ l ≤ 4) = p := ⟨_, rfl⟩
  have CL := Lib.hid (fun W => isLine_any l W p1 e1)
  rw [e1]
  cases p1
  · clear e1 hT
    go_enter Tryd.func17, Tryd.ntmps17
    go_wp2_with fail
    refine (CL.out _).mono ?_
    rintro e w' ⟨rfl, rfl⟩
    go_wp2_with fail
    go_ret2
    exact ⟨by first | rfl | simp, Below.refl _ _⟩
  have h1 := of_decide_eq_true e1
  obtain ⟨j, rfl⟩ : ∃ j : Nat, l = j := ⟨l.toNat, by omega⟩
  obtain ⟨a, hc2, _⟩ := hT j (by omega)
  have hle := offL_le (j : Int)
  simp only [if_true]
  generalize offL (j : Int) = X at *
  generalize X.length = N at *
  have hj : j = 0 ∨ j = 1 ∨ j = 2 ∨ j = 3 ∨ j = 4 := by omega
  clear e1 h1 hT
  rcases hj with rfl | rfl | rfl | rfl | rfl
  all_goals
    go_enter Tryd.func17, Tryd.ntmps17
    go_wp2_with fail
    refine (CL.out _).mono ?_
    rintro e w' ⟨rfl, rfl⟩
    go_wp2_with fail
    go_ret2
    exact ⟨rfl, Below.refl _ _⟩
-- TURNS
theorem turns_impl (l n : Int) (w : World) (hT : OffsLie w) :
    Calls Tryd.prog 27 #[.int .i64 l, .int .i64 n] w fun e w' => e = .returned (.tuple #[.int .i64 (if okTurn l n then (turnZ l (n.toNat - 1) : Int) else 0), .bool (okTurn l n)]) ∧ Below w.heap.size w w' := by
  unfold okTurn
  obtain ⟨p1, e1⟩ : ∃ p, decide (0 ≤ l ∧ l ≤ 4) = p := ⟨_, rfl⟩
  have CL := Lib.hid (fun W => isLine_any l W p1 e1)
  rw [e1]
  cases p1
  · clear e1 hT
    go_enter Tryd.func27, Tryd.ntmps27
    go_wp2_with fail
    refine (CL.out _).mono ?_
    rintro e w' ⟨rfl, rfl⟩
    go_wp2_with fail
    go_ret2
    exact ⟨by first | rfl | simp, Below.refl _ _⟩
  by_cases hn1 : n < 1
  · rw [show decide (1 ≤ n ∧ n ≤ 1000) = false from decide_eq_false (by omega)]
    have e3 : decide (n < 1) = true := decide_eq_true hn1
    clear e1 hT hn1
    go_enter Tryd.func27, Tryd.ntmps27
    go_wp2_with fail
    refine (CL.out _).mono ?_
    rintro e w' ⟨rfl, rfl⟩
    go_wp2_with fail
    go_ret2
    exact ⟨by first | rfl | simp, Below.refl _ _⟩
  by_cases hn2 : 1000 < n
  · rw [show decide (1 ≤ n ∧ n ≤ 1000) = false from decide_eq_false (by omega)]
    have e3 : decide (n < 1) = false := decide_eq_false hn1
    have e4 : decide (1000 < n) = true := decide_eq_true hn2
    clear e1 hT hn1 hn2
    go_enter Tryd.func27, Tryd.ntmps27
    go_wp2_with fail
    refine (CL.out _).mono ?_
    rintro e w' ⟨rfl, rfl⟩
    go_wp2_with fail
    go_ret2
    exact ⟨by first | rfl | simp, Below.refl _ _⟩
  have e2 : decide (1 ≤ n ∧ n ≤ 1000) = true := decide_eq_true (by omega)
  have e3 : decide (n < 1) = false := decide_eq_false hn1
  have e4 : decide (1000 < n) = false := decide_eq_false hn2
  rw [e2]
  have h1 := of_decide_eq_true e1
  have h2 := Lib.hid (of_decide_eq_true e2)
  simp only [Bool.and_self, if_true]
  have CV := Lib.hid (fun W => curveOf_any l W)
  obtain ⟨W1, hW1⟩ : ∃ W1, w.alloc (.cells #[.int .i64 l] 3 (0, 0)) = W1 := ⟨_, rfl⟩
  have hB1 : Below w.heap.size w W1 := by rw [← hW1]; exact (Below.refl _ w).alloc (Nat.le_refl _) _
  have CO := Lib.hid (fun (k : Nat) (hk : k ≤ 1000) (m : Nat) => (curve_any l k w.heap.size (W1.drewN m) ((hT.below hB1).drewN m) (by rw [← hW1]; exact (BoxF.new w [.int .i64 l] 3).one.1) h1.1 h1.2 (by omega)).mono (R' := fun e w' => e = .returned (.int .i64 (offZ l k)) ∧ ∃ m', w' = W1.drewN m') (by rintro e w' ⟨rfl, m', rfl⟩; exact ⟨rfl, m + m', by rw [World.drewN_drewN]⟩))
  have HB1 := Lib.hid hB1
  clear e1 e2 h1 hB1 hT hn1 hn2
  go_enter Tryd.func27, Tryd.ntmps27
  go_wp2_with fail
  refine (CL.out _).mono ?_
  rintro e w' ⟨rfl, rfl⟩
  go_wp2_with fail
  refine (CV.out _).mono ?_
  rintro e w' ⟨rfl, rfl⟩
  rw [hW1]
  go_wp2_with fail
  go_loopw [7, 8] (fun s i wr => ∃ t : Nat, 1 ≤ t ∧ (t : Int) ≤ n ∧ i = .int .i64 (t : Int) ∧ s = .int .i64 (turnZ l (t - 1) : Int) ∧ Hid (∃ m, wr = W1.drewN m)) (fun _ i _ => 1001 - (intOf i).toNat)
  case atStart => exact ⟨1, by omega, by have := h2.out; omega, rfl, rfl, Lib.hid ⟨0, rfl⟩⟩
  case round =>
    obtain ⟨t, ht1, htn, rfl, rfl, HB⟩ := hrel
    obtain ⟨k, rfl⟩ : ∃ k, t = k + 1 := ⟨t - 1, by omega⟩
    have hk9 : k + 1 ≤ 1000 := by have := h2.out; omega
    simp only [Nat.add_sub_cancel]
    obtain ⟨T, hT9⟩ : ∃ T, k + 1 = T := ⟨_, rfl⟩
    rw [hT9] at hk9 ht1 htn ⊢
    by_cases hlt : (T : Int) < n
    · have el : decide ((T : Int) < n) = true := decide_eq_true hlt
      have ek : (T : Int) - 1 = (k : Int) := by omega
      have C1 := Lib.hid (CO.out T (by omega))
      have C2 := Lib.hid (CO.out k (by omega))
      have hst : turnZ l T = turnZ l k + if offZ l T = offZ l k then 0 else 1 := by rw [← hT9]; rfl
      have hle := turnZ_le l k
      have HST := Lib.hid hst
      have hTk := Lib.hid hT9
      obtain ⟨z1, hz1⟩ : ∃ z, offZ l T = z := ⟨_, rfl⟩
      obtain ⟨z2, hz2⟩ : ∃ z, offZ l k = z := ⟨_, rfl⟩
      obtain ⟨tk, htk⟩ : ∃ z, turnZ l k = z := ⟨_, rfl⟩
      rw [hz1] at C1 HST
      rw [hz2] at C2 HST
      rw [htk] at HST hle ⊢
      have hk8 : k ≤ 1000 := by omega
      clear hst hz1 hz2 hT9 htk
      obtain ⟨m0, rfl⟩ := HB.out
      clear HB
      go_wp2_with fail
      refine (C1.out _).mono ?_
      rintro e w1 ⟨rfl, m1, rfl⟩
      go_wp2_with fail
      refine (C2.out _).mono ?_
      rintro e w2 ⟨rfl, m2, rfl⟩
      have HB2 : Hid (∃ m, W1.drewN m2 = W1.drewN m) := Lib.hid ⟨m2, rfl⟩
      by_cases hz : z1 = z2
      · have ez : (z1 != z2) = false := by simp [hz]
        have HT := Lib.hid (HST.out.trans (if_pos hz ▸ rfl : _ = tk + 0))
        clear HST hz
        go_wp2_with fail
        go_roundw
        case rel => exact ⟨T + 1, by omega, by omega, by go_num, by rw [Nat.add_sub_cancel, HT.out]; rfl, HB2⟩
        case measure => simp [intOf]; omega
      · have ez : (z1 != z2) = true := by simp [hz]
        have HT := Lib.hid (HST.out.trans (if_neg hz ▸ rfl : _ = tk + 1))
        clear HST hz
        go_wp2_with fail
        go_roundw
        case rel => exact ⟨T + 1, by omega, by omega, by go_num, by rw [Nat.add_sub_cancel, HT.out]; go_num, HB2⟩
        case measure => simp [intOf]; omega
    · have el : decide ((T : Int) < n) = false := decide_eq_false hlt
      have hTn : (T : Int) = n := by omega
      have hn9 : n.toNat - 1 = k := by omega
      go_wp2_with fail
      go_ret2
      obtain ⟨m0, rfl⟩ := HB.out
      exact ⟨by first | rfl | rw [hn9], below_drewN' HB1.out m0⟩
-- SNRUT
end Go.Proofs.YtkhpgggaaldhhaaDoor
