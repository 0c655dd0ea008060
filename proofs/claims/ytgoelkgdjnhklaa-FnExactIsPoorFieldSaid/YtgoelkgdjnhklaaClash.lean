/- Contracts: Clash of the program and of the model. -/
import Derived.Test.YtgoelkgdjnhklaaTin
namespace Go.Proofs.Ytgoelkgdjnhklaa
open Go.RowKit

theorem clash_eq {a b : Int} (h : a = b) : clashB a b = true := by simp [clashB, h]
theorem clash_cls {a b : Int} (h : cls a = cls b) (h3 : cls a ≠ 3) : clashB a b = true := by simp only [clashB, decide_eq_true_eq]; exact .inr ⟨h, h3⟩
theorem clash_ne {a b : Int} (h0 : a ≠ b) (h : cls a ≠ cls b) : clashB a b = false := by simp only [clashB, decide_eq_false_iff_not]; rintro (h1 | h1); exact h0 h1; exact h h1.1
theorem clash_fur {a b : Int} (h0 : a ≠ b) (h : cls a = 3) : clashB a b = false := by simp only [clashB, decide_eq_false_iff_not]; rintro (h1 | h1); exact h0 h1; exact h1.2 h
theorem clash_comm (a b : Int) : clashB a b = clashB b a := by
  unfold clashB
  congr 1
  apply propext
  constructor
  · rintro (h | ⟨h, h'⟩)
    · exact .inl h.symm
    · exact .inr ⟨h.symm, fun e => h' (h.trans e)⟩
  · rintro (h | ⟨h, h'⟩)
    · exact .inl h.symm
    · exact .inr ⟨h.symm, fun e => h' (h.trans e)⟩

set_option maxHeartbeats 1000000 in
theorem clash_yes (a b : Int) (w : World) (a0 : 1 ≤ a) (a1 : a ≤ 9) (b0 : 1 ≤ b) (b1 : b ≤ 9) :
    Calls Try.prog 10 #[.int .i64 a, .int .i64 b] w fun e w' => e = .returned (.tuple #[.bool (clashB a b), .bool true]) ∧ w = w' := by
  have c1 := classOf_yes a w a0 a1
  have c2 := classOf_yes b w b0 b1
  generalize hr : clashB a b = r
  have HR := Lib.hid hr
  obtain ⟨p, hp⟩ : ∃ p, cls a = p := ⟨_, rfl⟩
  obtain ⟨q, hq⟩ : ∃ q, cls b = q := ⟨_, rfl⟩
  rw [hp] at c1
  rw [hq] at c2
  have HP := Lib.hid hp
  have HQ := Lib.hid hq
  clear hr hp hq a0 a1 b0 b1
  by_cases h0 : a = b
  · have e0 : (a == b) = true := by rw [beq_iff_eq]; exact h0
    have HF : Hid (r = true) := Lib.hid (HR.out.symm.trans (clash_eq h0))
    clear h0
    go_enter Try.func10, Try.ntmps10
    go_wp2_with fail
    refine c1.mono ?_
    rintro e w' ⟨rfl, rfl⟩
    go_wp2_with fail
    refine c2.mono ?_
    rintro e w' ⟨rfl, rfl⟩
    go_wp2_with fail
    go_ret2
    exact ⟨by rw [HF.out] <;> rfl, rfl⟩
  · have e0 : (a == b) = false := by rw [beq_eq_false_iff_ne]; exact h0
    by_cases h1 : p = q
    · have e1 : (p == q) = true := by rw [beq_iff_eq]; exact h1
      by_cases h3 : p = 3
      · have e3 : (p == 3) = true := by rw [beq_iff_eq]; exact h3
        have e4 : (p != 3) = false := by simp [h3]
        have HF : Hid (r = false) := Lib.hid (HR.out.symm.trans (clash_fur h0 (HP.out.trans h3)))
        clear h0 h1 h3
        go_enter Try.func10, Try.ntmps10
        go_wp2_with fail
        refine c1.mono ?_
        rintro e w' ⟨rfl, rfl⟩
        go_wp2_with fail
        refine c2.mono ?_
        rintro e w' ⟨rfl, rfl⟩
        go_wp2_with fail
        go_ret2
        exact ⟨by rw [HF.out] <;> rfl, rfl⟩
      · have e3 : (p == 3) = false := by rw [beq_eq_false_iff_ne]; exact h3
        have e4 : (p != 3) = true := by rw [bne_iff_ne]; exact h3
        have HF : Hid (r = true) := Lib.hid (HR.out.symm.trans (clash_cls (HP.out.trans (h1.trans HQ.out.symm)) (by rw [HP.out]; exact h3)))
        clear h0 h1 h3
        go_enter Try.func10, Try.ntmps10
        go_wp2_with fail
        refine c1.mono ?_
        rintro e w' ⟨rfl, rfl⟩
        go_wp2_with fail
        refine c2.mono ?_
        rintro e w' ⟨rfl, rfl⟩
        go_wp2_with fail
        go_ret2
        exact ⟨by rw [HF.out] <;> rfl, rfl⟩
    · have e1 : (p == q) = false := by rw [beq_eq_false_iff_ne]; exact h1
      have HF : Hid (r = false) := Lib.hid (HR.out.symm.trans (clash_ne h0 (by rw [HP.out, HQ.out]; exact h1)))
      clear h0 h1
      go_enter Try.func10, Try.ntmps10
      go_wp2_with fail
      refine c1.mono ?_
      rintro e w' ⟨rfl, rfl⟩
      go_wp2_with fail
      refine c2.mono ?_
      rintro e w' ⟨rfl, rfl⟩
      go_wp2_with fail
      go_ret2
      exact ⟨by rw [HF.out] <;> rfl, rfl⟩
theorem clash_no1 (a b : Int) (w : World) (h : a < 1 ∨ 9 < a) :
    Calls Try.prog 10 #[.int .i64 a, .int .i64 b] w fun e w' => e = .returned (.tuple #[.bool false, .bool false]) ∧ w = w' := by
  have c1 := classOf_no a w h
  clear h
  by_cases hb : 1 ≤ b ∧ b ≤ 9
  · have c2 := classOf_yes b w hb.1 hb.2
    clear hb
    go_enter Try.func10, Try.ntmps10
    go_wp2_with fail
    refine c1.mono ?_
    rintro e w' ⟨rfl, rfl⟩
    go_wp2_with fail
    refine c2.mono ?_
    rintro e w' ⟨rfl, rfl⟩
    go_wp2_with fail
    go_ret2
    exact ⟨rfl, rfl⟩
  · have c2 := classOf_no b w (by omega)
    clear hb
    go_enter Try.func10, Try.ntmps10
    go_wp2_with fail
    refine c1.mono ?_
    rintro e w' ⟨rfl, rfl⟩
    go_wp2_with fail
    refine c2.mono ?_
    rintro e w' ⟨rfl, rfl⟩
    go_wp2_with fail
    go_ret2
    exact ⟨rfl, rfl⟩
theorem clash_no2 (a b : Int) (w : World) (h : b < 1 ∨ 9 < b) :
    Calls Try.prog 10 #[.int .i64 a, .int .i64 b] w fun e w' => e = .returned (.tuple #[.bool false, .bool false]) ∧ w = w' := by
  by_cases ha : 1 ≤ a ∧ a ≤ 9
  · have c1 := classOf_yes a w ha.1 ha.2
    have c2 := classOf_no b w h
    clear ha h
    go_enter Try.func10, Try.ntmps10
    go_wp2_with fail
    refine c1.mono ?_
    rintro e w' ⟨rfl, rfl⟩
    go_wp2_with fail
    refine c2.mono ?_
    rintro e w' ⟨rfl, rfl⟩
    go_wp2_with fail
    go_ret2
    exact ⟨rfl, rfl⟩
  · exact clash_no1 a b w (by omega)
/-- What both answer. -/
def clashA (a b : Int) : Bool × Bool := if 1 ≤ a ∧ a ≤ 9 ∧ 1 ≤ b ∧ b ≤ 9 then (clashB a b, true) else (false, false)
theorem clash_impl (a b : Int) (w : World) :
    Calls Try.prog 10 #[.int .i64 a, .int .i64 b] w fun e w' => e = .returned (.tuple #[.bool (clashA a b).1, .bool (clashA a b).2]) ∧ w = w' := by
  unfold clashA
  split
  · next h => exact clash_yes a b w h.1 h.2.1 h.2.2.1 h.2.2.2
  · next h =>
    by_cases ha : 1 ≤ a ∧ a ≤ 9
    · exact clash_no2 a b w (by omega)
    · exact clash_no1 a b w (by omega)

set_option maxHeartbeats 1000000 in
theorem l2Clash_any (a b : Int) (w : World) :
    Calls Try.prog 8 #[.int .i64 a, .int .i64 b] w fun e w' => e = .returned (.bool (clashB a b)) ∧ w = w' := by
  have c1 := fun W => l2Class_any a W
  have c2 := fun W => l2Class_any b W
  generalize hr : clashB a b = r
  have HR := Lib.hid hr
  obtain ⟨p, hp⟩ : ∃ p, cls a = p := ⟨_, rfl⟩
  obtain ⟨q, hq⟩ : ∃ q, cls b = q := ⟨_, rfl⟩
  rw [hp] at c1
  rw [hq] at c2
  have HP := Lib.hid hp
  have HQ := Lib.hid hq
  clear hr hp hq
  by_cases h0 : a = b
  · have e0 : (a == b) = true := by rw [beq_iff_eq]; exact h0
    have HF : Hid (r = true) := Lib.hid (HR.out.symm.trans (clash_eq h0))
    clear h0
    go_enter Try.func8, Try.ntmps8
    go_wp2_with (first | (go_at_call 14; (with_reducible refine (c1 _).mono ?_); rintro e w' ⟨rfl, rfl⟩) | (go_at_call 14; (with_reducible refine (c2 _).mono ?_); rintro e w' ⟨rfl, rfl⟩))
    go_ret
    exact ⟨by rw [HF.out] <;> rfl, rfl⟩
  · have e0 : (a == b) = false := by rw [beq_eq_false_iff_ne]; exact h0
    by_cases h1 : p = q
    · have e1 : (p == q) = true := by rw [beq_iff_eq]; exact h1
      by_cases h3 : p = 3
      · have e3 : (p == 3) = true := by rw [beq_iff_eq]; exact h3
        have e4 : (p != 3) = false := by simp [h3]
        have HF : Hid (r = false) := Lib.hid (HR.out.symm.trans (clash_fur h0 (HP.out.trans h3)))
        clear h0 h1 h3
        go_enter Try.func8, Try.ntmps8
        go_wp2_with (first | (go_at_call 14; (with_reducible refine (c1 _).mono ?_); rintro e w' ⟨rfl, rfl⟩) | (go_at_call 14; (with_reducible refine (c2 _).mono ?_); rintro e w' ⟨rfl, rfl⟩))
        go_ret
        exact ⟨by rw [HF.out] <;> rfl, rfl⟩
      · have e3 : (p == 3) = false := by rw [beq_eq_false_iff_ne]; exact h3
        have e4 : (p != 3) = true := by rw [bne_iff_ne]; exact h3
        have HF : Hid (r = true) := Lib.hid (HR.out.symm.trans (clash_cls (HP.out.trans (h1.trans HQ.out.symm)) (by rw [HP.out]; exact h3)))
        clear h0 h1 h3
        go_enter Try.func8, Try.ntmps8
        go_wp2_with (first | (go_at_call 14; (with_reducible refine (c1 _).mono ?_); rintro e w' ⟨rfl, rfl⟩) | (go_at_call 14; (with_reducible refine (c2 _).mono ?_); rintro e w' ⟨rfl, rfl⟩))
        go_ret
        exact ⟨by rw [HF.out] <;> rfl, rfl⟩
    · have e1 : (p == q) = false := by rw [beq_eq_false_iff_ne]; exact h1
      have HF : Hid (r = false) := Lib.hid (HR.out.symm.trans (clash_ne h0 (by rw [HP.out, HQ.out]; exact h1)))
      clear h0 h1
      go_enter Try.func8, Try.ntmps8
      go_wp2_with (first | (go_at_call 14; (with_reducible refine (c1 _).mono ?_); rintro e w' ⟨rfl, rfl⟩) | (go_at_call 14; (with_reducible refine (c2 _).mono ?_); rintro e w' ⟨rfl, rfl⟩))
      go_ret
      exact ⟨by rw [HF.out] <;> rfl, rfl⟩
end Go.Proofs.Ytgoelkgdjnhklaa
