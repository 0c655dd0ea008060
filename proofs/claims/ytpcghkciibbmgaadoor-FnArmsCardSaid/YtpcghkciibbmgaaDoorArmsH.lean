/- Contract: the model's SameShape. -/
import Derived.Test.YtpcghkciibbmgaaDoorArmsS
import Derived.Test.YtpcghkciibbmgaaDoorEqArms
import Derived.Deep.RegionWith
namespace Go.Proofs.YtpcghkciibbmgaaDoor
open Go.RowKit

/-- The same but for the tinctures. -/
def shapeB (d l _ _ o n _ c k a _ c' k' a' _ u0 u1 _ _ u4 u5 _ u7 u8 u9 _ u11 u12 u13 _ : Int) : Bool := decide (d = u0 ∧ l = u1 ∧ (0 : Int) = 0 ∧ (0 : Int) = 0 ∧ o = u4 ∧ n = u5 ∧ (0 : Int) = 0 ∧ c = u7 ∧ k = u8 ∧ a = u9 ∧ (0 : Int) = 0 ∧ c' = u11 ∧ k' = u12 ∧ a' = u13 ∧ (0 : Int) = 0)
end Go.Proofs.YtpcghkciibbmgaaDoor
