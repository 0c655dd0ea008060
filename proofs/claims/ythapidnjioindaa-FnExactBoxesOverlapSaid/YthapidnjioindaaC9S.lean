/- Contracts: the model's regions of the shield, of parts and of ordinaries. -/
import Derived.Test.YthapidnjioindaaC9R
namespace Go.Proofs.Ythapidnjioindaa
open Go.RowKit



end Go.Proofs.Ythapidnjioindaa
