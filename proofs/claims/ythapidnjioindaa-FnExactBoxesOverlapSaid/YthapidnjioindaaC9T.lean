/- Contracts: the program's regions of parts and of ordinaries. -/
import Derived.Test.YthapidnjioindaaC9R
import Derived.Test.YthapidnjioindaaDivT
import Derived.Deep.RegionHeld3
namespace Go.Proofs.Ythapidnjioindaa
open Go.RowKit



end Go.Proofs.Ythapidnjioindaa
