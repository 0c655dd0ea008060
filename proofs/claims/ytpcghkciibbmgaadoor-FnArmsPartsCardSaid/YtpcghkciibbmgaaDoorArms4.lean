/- Contracts: the model's tinctures of arms. -/
import Derived.Test.YtpcghkciibbmgaaDoorArms3
namespace Go.Proofs.YtpcghkciibbmgaaDoor
open Go.RowKit

/-- The tinctures of the layers. -/
def armTL (d f s o x : Int) (z1 z2 : Bool) (t t' : Int) : List Int := tincL d f s ++ (if 0 < o then [x] else []) ++ (if z1 = true then [] else [t]) ++ (if z2 = true then [] else [t'])
theorem infoI5 : (Tryd.prog.info? 3).map (fun i => (i.zero, i.size, i.bytes)) = some (some (.int .i64 0), 1, 8) := by kernel_rfl
end Go.Proofs.YtpcghkciibbmgaaDoor
