/- Contract: the model's AttitudesOf. -/
import Derived.Test.YtklfkdmmclomoaaDoorStrRows
import Derived.Test.YtklfkdmmclomoaaDoorGroups
import Derived.Test.YtklfkdmmclomoaaDoorAttsL
namespace Go.Proofs.YtklfkdmmclomoaaDoor
open Go.RowKit

theorem l4Atts_any (x : Int) (w : World) :
    Calls Tryd.prog 72 #[.int .i64 x] w (AnsTL w (attsL x)) := by
  rcases (show x = 1 ∨ x = 2 ∨ x = 3 ∨ (x < 1 ∨ 3 < x) by omega) with rfl | rfl | rfl | h
  · rw [attsL_1]
    go_enter Tryd.func72, Tryd.ntmps72
    go_wp2_with fail
    go_ret
    exact ansTL_lit w [⟨#[114, 97, 109, 112, 97, 110, 116]⟩, ⟨#[112, 97, 115, 115, 97, 110, 116]⟩] (by decide)
  · rw [attsL_2]
    go_enter Tryd.func72, Tryd.ntmps72
    go_wp2_with fail
    go_ret
    exact ansTL_lit w [⟨#[100, 105, 115, 112, 108, 97, 121, 101, 100]⟩, ⟨#[114, 105, 115, 105, 110, 103]⟩] (by decide)
  · rw [attsL_3]
    go_enter Tryd.func72, Tryd.ntmps72
    go_wp2_with fail
    go_ret
    exact ansTL_lit w [⟨#[115, 119, 105, 109, 109, 105, 110, 103]⟩, ⟨#[117, 112, 114, 105, 103, 104, 116]⟩] (by decide)
  · rw [attsL_x h]
    have e1 : (x == 1) = false := by rw [beq_eq_false_iff_ne]; omega
    have e2 : (x == 2) = false := by rw [beq_eq_false_iff_ne]; omega
    have e3 : (x == 3) = false := by rw [beq_eq_false_iff_ne]; omega
    clear h
    go_enter Tryd.func72, Tryd.ntmps72
    go_wp2_with fail
    go_ret
    exact ansTL_lit w [] (by decide)
def attsA (x : Int) : List ByteArray := if 1 ≤ x ∧ x ≤ 8 then attsL x else []
theorem attitudes_spec (x : Int) (w : World) :
    Calls Tryd.prog 34 #[.int .i64 x] w (AnsT w (attsA x) (decide (1 ≤ x ∧ x ≤ 8))) := by
  have ck := fun W => l4Kind_any x W _ rfl
  have ca := fun W => l4Atts_any x W
  by_cases h : 1 ≤ x ∧ x ≤ 8
  · unfold attsA
    rw [if_pos h]
    rw [decide_eq_true h] at ck ⊢
    clear h
    go_enter Tryd.func34, Tryd.ntmps34
    go_wp2_with fail
    refine (ck _).mono ?_
    rintro e w' ⟨rfl, rfl⟩
    go_wp2_with fail
    refine (ca _).mono ?_
    rintro e w' ⟨a, cap, rfl, ho, hb⟩
    go_wp2_with fail
    go_ret2
    exact ⟨a, cap, rfl, ho, hb⟩
  · unfold attsA
    rw [if_neg h]
    rw [decide_eq_false h] at ck ⊢
    clear h ca
    go_enter Tryd.func34, Tryd.ntmps34
    go_wp2_with fail
    refine (ck _).mono ?_
    rintro e w' ⟨rfl, rfl⟩
    go_wp2_with fail
    go_ret2
    exact ansT_lit w false [] (by decide)
end Go.Proofs.YtklfkdmmclomoaaDoor
