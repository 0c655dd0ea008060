/- Contracts: ContrastOf of the program and of the model. -/
import Derived.Test.YtflfdngcgebmmaaDoorShare
import Derived.Test.YtflfdngcgebmmaaDoorClash
namespace Go.Proofs.YtflfdngcgebmmaaDoor
open Go.RowKit

def ctr (a b : Int) : Int := if clashB a b = true then 0 else if ((baseL a).any fun x => (baseL b).contains x) = true then 1 else 2
theorem ctr_0 {a b : Int} (h : clashB a b = true) : ctr a b = 0 := by simp only [ctr, h]; rfl
theorem ctr_1 {a b : Int} (h : clashB a b = false) (h1 : ((baseL a).any fun x => (baseL b).contains x) = true) : ctr a b = 1 := by simp only [ctr, h, h1]; rfl
theorem ctr_2 {a b : Int} (h : clashB a b = false) (h1 : ((baseL a).any fun x => (baseL b).contains x) = false) : ctr a b = 2 := by simp only [ctr, h, h1]; rfl
theorem base_pos (x : Int) : 1 ≤ (baseL x).length := by unfold baseL; split; simp; split <;> simp
theorem ret_ctr {i j : Int} (h : i = j) : Ending.returned (.tuple #[.int .i64 i, .bool true]) = .returned (.tuple #[.int .i64 j, .bool true]) := by rw [h]

set_option maxHeartbeats 1000000 in
theorem contrast_impl (a b : Int) (w : World) (a0 : 1 ≤ a) (a1 : a ≤ 9) (b0 : 1 ≤ b) (b1 : b ≤ 9) :
    Calls Tryd.prog 16 #[.int .i64 a, .int .i64 b] w fun e w' => e = .returned (.tuple #[.int .i64 (ctr a b), .bool true]) ∧ Below w.heap.size w w' := by
  have c1 := clash_yes a b w a0 a1 b0 b1
  have c2 := share_any a b w a0 a1 b0 b1
  obtain ⟨r, hr⟩ : ∃ r, ctr a b = r := ⟨_, rfl⟩
  rw [hr]
  clear a0 a1 b0 b1
  unfold shareB at c2
  cases hc : clashB a b
  · rw [hc] at c1
    cases hs : (baseL a).any fun x => (baseL b).contains x
    · rw [hs] at c2
      have HR := Lib.hid ((ctr_2 hc hs).symm.trans hr)
      clear hc hs hr
      go_enter Tryd.func16, Tryd.ntmps16
      go_wp2_with fail
      refine c1.mono ?_
      rintro e w' ⟨rfl, rfl⟩
      go_wp2_with fail
      refine c2.mono ?_
      rintro e w' ⟨rfl, hb⟩
      go_wp2_with fail
      go_ret2
      exact ⟨ret_ctr HR.out, hb⟩
    · rw [hs] at c2
      have HR := Lib.hid ((ctr_1 hc hs).symm.trans hr)
      clear hc hs hr
      go_enter Tryd.func16, Tryd.ntmps16
      go_wp2_with fail
      refine c1.mono ?_
      rintro e w' ⟨rfl, rfl⟩
      go_wp2_with fail
      refine c2.mono ?_
      rintro e w' ⟨rfl, hb⟩
      go_wp2_with fail
      go_ret2
      exact ⟨ret_ctr HR.out, hb⟩
  · rw [hc] at c1
    have HR := Lib.hid ((ctr_0 hc).symm.trans hr)
    clear hc hr
    go_enter Tryd.func16, Tryd.ntmps16
    go_wp2_with fail
    refine c1.mono ?_
    rintro e w' ⟨rfl, rfl⟩
    go_wp2_with fail
    go_ret2
    exact ⟨ret_ctr HR.out, Below.refl _ _⟩
theorem contrast_impl_no (a b : Int) (w : World) (h : ¬ (1 ≤ a ∧ a ≤ 9 ∧ 1 ≤ b ∧ b ≤ 9)) :
    Calls Tryd.prog 16 #[.int .i64 a, .int .i64 b] w fun e w' => e = .returned (.tuple #[.int .i64 0, .bool false]) ∧ Below w.heap.size w w' := by
  have c1 := clash_impl a b w
  unfold clashA at c1
  rw [if_neg h] at c1
  clear h
  go_enter Tryd.func16, Tryd.ntmps16
  go_wp2_with fail
  refine c1.mono ?_
  rintro e w' ⟨rfl, rfl⟩
  go_wp2_with fail
  go_ret2
  exact ⟨rfl, Below.refl _ _⟩

end Go.Proofs.YtflfdngcgebmmaaDoor
