/- Contracts: TincturesAgainst of the program and of the model. -/
import Derived.Test.YtkhpgggaaldhhaaDoorBases
import Derived.Test.YtkhpgggaaldhhaaDoorClash
namespace Go.Proofs.YtkhpgggaaldhhaaDoor
open Go.RowKit

theorem agL_zero (x : Int) : agL x 0 = [] := rfl
end Go.Proofs.YtkhpgggaaldhhaaDoor
