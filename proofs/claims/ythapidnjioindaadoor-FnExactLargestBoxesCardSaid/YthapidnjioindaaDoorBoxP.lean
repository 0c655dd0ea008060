/- Boxes: what they are stands in IntRows. -/
import Derived.Test.YthapidnjioindaaDoorIntRows
namespace Go.Proofs.YthapidnjioindaaDoor
end Go.Proofs.YthapidnjioindaaDoor
