/- Contracts: the program's validity of fields, in two ways. -/
import Derived.Test.YtgoelkgdjnhklaaRVal
namespace Go.Proofs.Ytgoelkgdjnhklaa
open Go.RowKit

theorem validField_yes (d l f s : Int) (w : World) (h : FOk d l f s) :
    Calls Try.prog 9 #[.agg #[.int .i64 d, .int .i64 l, .int .i64 f, .int .i64 s]] w fun e w' => e = .returned (.bool true) ∧ Below w.heap.size w w' := validField_impl d l f s w true (decide_eq_true h)
theorem validField_no (d l f s : Int) (w : World) (h : ¬ FOk d l f s) :
    Calls Try.prog 9 #[.agg #[.int .i64 d, .int .i64 l, .int .i64 f, .int .i64 s]] w fun e w' => e = .returned (.bool false) ∧ Below w.heap.size w w' := validField_impl d l f s w false (decide_eq_false h)
end Go.Proofs.Ytgoelkgdjnhklaa
