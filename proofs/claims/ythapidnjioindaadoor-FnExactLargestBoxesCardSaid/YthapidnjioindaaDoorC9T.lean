/- Contracts: the program's regions of parts and of ordinaries. -/
import Derived.Test.YthapidnjioindaaDoorC9R
import Derived.Test.YthapidnjioindaaDoorDivT
import Derived.Deep.RegionHeld3
namespace Go.Proofs.YthapidnjioindaaDoor
open Go.RowKit

theorem isOrd_any (x : Int) (w : World) (p : Bool) (hp : decide (1 ≤ x ∧ x ≤ 7) = p) :
    Calls Tryd.prog 108 #[.int .i64 x] w fun e w' => e = .returned (.bool p) ∧ w = w' := by
  obtain ⟨p1, e1⟩ : ∃ p, decide (1 ≤ x) = p := ⟨_, rfl⟩
  obtain ⟨p2, e2⟩ : ∃ p, decide (x ≤ 7) = p := ⟨_, rfl⟩
  have hR : (p1 && p2) = p := by rw [← hp, ← e1, ← e2]; by_cases h : 1 ≤ x <;> by_cases h' : x ≤ 7 <;> simp [h, h']
  clear hp
  subst hR
  cases p1
  all_goals
    go_enter Tryd.func108, Tryd.ntmps108
    go_wp2_with fail
    go_ret
    exact ⟨by first | rfl | simp, rfl⟩


end Go.Proofs.YthapidnjioindaaDoor
