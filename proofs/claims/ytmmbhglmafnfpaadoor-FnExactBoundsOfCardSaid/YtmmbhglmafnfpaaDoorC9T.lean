/- Contracts: the program's regions of parts and of ordinaries. -/
import Derived.Test.YtmmbhglmafnfpaaDoorC9R
import Derived.Deep.RegionHeld3
namespace Go.Proofs.YtmmbhglmafnfpaaDoor
open Go.RowKit



end Go.Proofs.YtmmbhglmafnfpaaDoor
