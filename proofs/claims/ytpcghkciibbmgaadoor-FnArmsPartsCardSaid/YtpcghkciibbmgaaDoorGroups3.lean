/- Contracts: the model's GroupDifferences. -/
import Derived.Test.YtpcghkciibbmgaaDoorGroups2
namespace Go.Proofs.YtpcghkciibbmgaaDoor
open Go.RowKit

/-- A group that may stand: valid or none. -/
def gAnyB (c k a t : Int) : Bool := gNoB c k a t || gOkB c k a t
end Go.Proofs.YtpcghkciibbmgaaDoor
