/- Contracts: Clash of the program and of the model. -/
import Derived.Test.YtkhpgggaaldhhaaDoorTin
namespace Go.Proofs.YtkhpgggaaldhhaaDoor
open Go.RowKit

theorem clash_eq {a b : Int} (h : a = b) : clashB a b = true := by simp [clashB, h]
theorem clash_cls {a b : Int} (h : cls a = cls b) (h3 : cls a ≠ 3) : clashB a b = true := by simp only [clashB, decide_eq_true_eq]; exact .inr ⟨h, h3⟩
theorem clash_ne {a b : Int} (h0 : a ≠ b) (h : cls a ≠ cls b) : clashB a b = false := by simp only [clashB, decide_eq_false_iff_not]; rintro (h1 | h1); exact h0 h1; exact h h1.1
theorem clash_fur {a b : Int} (h0 : a ≠ b) (h : cls a = 3) : clashB a b = false := by simp only [clashB, decide_eq_false_iff_not]; rintro (h1 | h1); exact h0 h1; exact h1.2 h
theorem clash_comm (a b : Int) : clashB a b = clashB b a := by
  unfold clashB
  congr 1
  apply propext
  constructor
  · rintro (h | ⟨h, h'⟩)
    · exact .inl h.symm
    · exact .inr ⟨h.symm, fun e => h' (h.trans e)⟩
  · rintro (h | ⟨h, h'⟩)
    · exact .inl h.symm
    · exact .inr ⟨h.symm, fun e => h' (h.trans e)⟩


end Go.Proofs.YtkhpgggaaldhhaaDoor
