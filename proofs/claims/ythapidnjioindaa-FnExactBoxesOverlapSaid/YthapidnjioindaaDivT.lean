/- Contract: whether a number is a division. -/
import Derived.Test.YthapidnjioindaaIntRows
namespace Go.Proofs.Ythapidnjioindaa
open Go.RowKit

end Go.Proofs.Ythapidnjioindaa
