/- Boxes: what they are stands in IntRows. -/
import Derived.Test.YthapidnjioindaaIntRows
namespace Go.Proofs.Ythapidnjioindaa
end Go.Proofs.Ythapidnjioindaa
