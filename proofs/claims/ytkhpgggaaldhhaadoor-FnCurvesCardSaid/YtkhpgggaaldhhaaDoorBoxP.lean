/- Boxes: what they are stands in IntRows. -/
import Derived.Test.YtkhpgggaaldhhaaDoorIntRows
namespace Go.Proofs.YtkhpgggaaldhhaaDoor
end Go.Proofs.YtkhpgggaaldhhaaDoor
