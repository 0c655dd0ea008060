/- Two plain facts on bytes as numbers. -/
import Derived.Test.YtklfkdmmclomoaaDoorBase
import Derived.Test.YtklfkdmmclomoaaDoorProg
import Derived.WalkLawsBesides
import Derived.IntWalk
namespace Go.Proofs.YtklfkdmmclomoaaDoor
theorem byte_eq {a c : UInt8} (h : a = c) : ((a.toNat : Int) == (c.toNat : Int)) = true := by simp [h]
theorem byte_ne {a c : UInt8} (h : a ≠ c) : ((a.toNat : Int) == (c.toNat : Int)) = false := by
  simp; intro e; exact h (UInt8.toNat_inj.1 (by omega))

end Go.Proofs.YtklfkdmmclomoaaDoor
