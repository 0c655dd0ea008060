/- The table of powers of ten of Go's library, read out of the row's condition. -/
import Derived.Test.YtacpacllpjddlaaDoorRows
import Derived.LaidMore
import Derived.Stop.LaidErr
import Derived.MakeChecks
import Derived.Lib.LaidTab
import Derived.Lib.ItoaNum
namespace Go.Proofs.YtacpacllpjddlaaDoor
theorem pow10_of {rest : List (String × DataW Unit)} {w : World} (h : laidMet Tryd.prog (("internal/strconv.uint64pow10", Rows.laid_internal_strconv_uint64pow10) :: rest) w) :
    Lib.TabIs Tryd.prog w "internal/strconv.uint64pow10" .u64 Lib.pow10Tab :=
  Lib.tabIs_of_head (g := 1) (t := 64) (e := 35) (n := 20) (by kernel_rfl) (by kernel_rfl) Tryd.underlying64 Tryd.underlying35 (by kernel_rfl) (by kernel_rfl) h
end Go.Proofs.YtacpacllpjddlaaDoor
