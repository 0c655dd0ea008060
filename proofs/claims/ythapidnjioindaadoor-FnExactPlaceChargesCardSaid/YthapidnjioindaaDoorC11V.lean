/- The tables that the cards of chapter 11 name together, each by itself. -/
import Derived.Test.YthapidnjioindaaDoorKG
import Derived.Test.YthapidnjioindaaDoorKJA
import Derived.Test.YthapidnjioindaaDoorKIF
import Derived.LaidSub
import Derived.LaidMore
import Derived.MakeChecks
namespace Go.Proofs.YthapidnjioindaaDoor

theorem attsOf {w : World} {l : List (String × DataW Unit)} (e : l.filter (fun x => x.1 == "loop.example/g00884/impl.attitudeWords") = [("loop.example/g00884/impl.attitudeWords", Rows.laid_loop_example_g00884_impl_attitudeWords)]) (h : laidMetH Tryd.prog l w) : AttsLie w := by
  have h1 := h.filter (fun x => x.1 == "loop.example/g00884/impl.attitudeWords")
  rw [e] at h1
  exact attsH h1
theorem offsOf {w : World} {l : List (String × DataW Unit)} (e : l.filter (fun x => x.1 == "loop.example/g00884/impl.lineOffsets") = [("loop.example/g00884/impl.lineOffsets", Rows.laid_loop_example_g00884_impl_lineOffsets)]) (h : laidMetH Tryd.prog l w) : OffsLie w := by
  have h1 := h.filter (fun x => x.1 == "loop.example/g00884/impl.lineOffsets")
  rw [e] at h1
  exact offsH h1
theorem tzOf {w : World} {l : List (String × DataW Unit)} (e : l.filter (fun x => x.1 == "math/bits.deBruijn32tab" || x.1 == "math/bits.deBruijn64tab") = [("math/bits.deBruijn32tab", Rows.laid_math_bits_deBruijn32tab), ("math/bits.deBruijn64tab", Rows.laid_math_bits_deBruijn64tab)]) (h : laidMetH Tryd.prog l w) : TzT w := by
  have h1 := h.filter (fun x => x.1 == "math/bits.deBruijn32tab" || x.1 == "math/bits.deBruijn64tab")
  rw [e] at h1
  exact tzH h1
end Go.Proofs.YthapidnjioindaaDoor
