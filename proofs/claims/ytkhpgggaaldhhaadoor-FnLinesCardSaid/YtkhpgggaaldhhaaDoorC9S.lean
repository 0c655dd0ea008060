/- Contracts: the model's regions of the shield, of parts and of ordinaries. -/
import Derived.Test.YtkhpgggaaldhhaaDoorC9R
namespace Go.Proofs.YtkhpgggaaldhhaaDoor
open Go.RowKit



end Go.Proofs.YtkhpgggaaldhhaaDoor
