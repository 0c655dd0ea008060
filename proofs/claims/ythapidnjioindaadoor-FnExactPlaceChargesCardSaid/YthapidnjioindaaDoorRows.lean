/-
  NARROWER THAN 'FOR EVERY INPUT', by the rows' own cells (each row's printed sentence says how): FnFilling: laid · FnExactFillRegion: laid · FnExactLargestBoxes: laid · FnExactArmsOrdinary: laid · FnExactGroundOf: laid · FnExactPlaceCharges: laid · FnRegions: laid.
  DERIVED. THE GIVEN ROWS OF THIS SEAT. 7 by the template 'for every input the law returns true; each argument reads behind the call as it read before'; 0 by the template 'total and deterministic' (their statements: YthapidnjioindaaDoorTotals.lean).
  GIVEN WITH THE SEED: the statements are not yours to turn. If you find one false, say at which input.
  Laid BY PROGRAM, IN A SANDBOX (cutbox-rows.mjs): the forced cells as the released guide's own fill.sh prints them over the translation f716edf39d3a2355… (all of the seat's roots in one cut). By AI agents, Wed Nov 11 2026. No macro, syntax, notation, axiom, sorry.
-/
import Derived.Test.YthapidnjioindaaDoorChecked
import GoSem.Claim
import GoSem.ClaimJoined
import GoSem.ClaimMapViews
import Derived.JoinedTies
import Derived.KernelRfl
namespace Go.Proofs.YthapidnjioindaaDoor
/- THE CELL 'sum', in the pinned program and in every row, IS THE sha256 OF THE DUMP (.gsa) THAT YthapidnjioindaaDoorProg.lean LOADS. Nothing in Lean hashes anything: it is a label: what it is worth is what the hold of that sum in a sandbox is worth. -/
noncomputable def Tryd.pinned : Pinned := { name := "ythapidnjioindaadoor", sum := "f716edf39d3a2355cd7bb7be5039518fc286fa99d57abe7c742e73b1cbfe75c8", checked := Tryd.checked }
namespace Rows
def none {H : Type} : Left H := { results := [], args := [] }

/- WHAT THE LISTED PACKAGE-LEVEL VARIABLES READ AS WHEN THE CALL BEGINS. Each datum BY PROGRAM (the guide's laid-datum.mjs) off the statement by which the dump's own 'gosem.cut.vars' lays the variable. In a bare row this is a premise. The card (YthapidnjioindaaDoorCards.lean) ties it to the program's text. -/
def laid_math_bits_deBruijn32tab {H : Type} : DataW H := .agg [.lit (.int .u8 0), .lit (.int .u8 1), .lit (.int .u8 28), .lit (.int .u8 2), .lit (.int .u8 29), .lit (.int .u8 14), .lit (.int .u8 24), .lit (.int .u8 3), .lit (.int .u8 30), .lit (.int .u8 22), .lit (.int .u8 20), .lit (.int .u8 15), .lit (.int .u8 25), .lit (.int .u8 17), .lit (.int .u8 4), .lit (.int .u8 8), .lit (.int .u8 31), .lit (.int .u8 27), .lit (.int .u8 13), .lit (.int .u8 23), .lit (.int .u8 21), .lit (.int .u8 19), .lit (.int .u8 16), .lit (.int .u8 7), .lit (.int .u8 26), .lit (.int .u8 12), .lit (.int .u8 18), .lit (.int .u8 6), .lit (.int .u8 11), .lit (.int .u8 5), .lit (.int .u8 10), .lit (.int .u8 9)]
def laid_math_bits_deBruijn64tab {H : Type} : DataW H := .agg [.lit (.int .u8 0), .lit (.int .u8 1), .lit (.int .u8 56), .lit (.int .u8 2), .lit (.int .u8 57), .lit (.int .u8 49), .lit (.int .u8 28), .lit (.int .u8 3), .lit (.int .u8 61), .lit (.int .u8 58), .lit (.int .u8 42), .lit (.int .u8 50), .lit (.int .u8 38), .lit (.int .u8 29), .lit (.int .u8 17), .lit (.int .u8 4), .lit (.int .u8 62), .lit (.int .u8 47), .lit (.int .u8 59), .lit (.int .u8 36), .lit (.int .u8 45), .lit (.int .u8 43), .lit (.int .u8 51), .lit (.int .u8 22), .lit (.int .u8 53), .lit (.int .u8 39), .lit (.int .u8 33), .lit (.int .u8 30), .lit (.int .u8 24), .lit (.int .u8 18), .lit (.int .u8 12), .lit (.int .u8 5), .lit (.int .u8 63), .lit (.int .u8 55), .lit (.int .u8 48), .lit (.int .u8 27), .lit (.int .u8 60), .lit (.int .u8 41), .lit (.int .u8 37), .lit (.int .u8 16), .lit (.int .u8 46), .lit (.int .u8 35), .lit (.int .u8 44), .lit (.int .u8 21), .lit (.int .u8 52), .lit (.int .u8 32), .lit (.int .u8 23), .lit (.int .u8 11), .lit (.int .u8 54), .lit (.int .u8 26), .lit (.int .u8 40), .lit (.int .u8 15), .lit (.int .u8 34), .lit (.int .u8 20), .lit (.int .u8 31), .lit (.int .u8 10), .lit (.int .u8 25), .lit (.int .u8 14), .lit (.int .u8 19), .lit (.int .u8 9), .lit (.int .u8 13), .lit (.int .u8 8), .lit (.int .u8 7), .lit (.int .u8 6)]
def laid_loop_example_g00884_impl_lineOffsets {H : Type} : DataW H := .agg [.slice [.lit (.int .i64 0)] [], .slice [.lit (.int .i64 0), .lit (.int .i64 1), .lit (.int .i64 1), .lit (.int .i64 0)] [], .slice [.lit (.int .i64 0), .lit (.int .i64 1), .lit (.int .i64 1), .lit (.int .i64 0), .lit (.int .i64 0), .lit (.int .i64 (-1)), .lit (.int .i64 (-1)), .lit (.int .i64 0)] [], .slice [.lit (.int .i64 0), .lit (.int .i64 0), .lit (.int .i64 2), .lit (.int .i64 2)] [], .slice [.lit (.int .i64 0), .lit (.int .i64 1), .lit (.int .i64 2), .lit (.int .i64 1)] []]
def laid_loop_example_g00884_impl_attitudeWords {H : Type} : DataW H := .agg [.slice [.lit (.string [114, 97, 109, 112, 97, 110, 116]), .lit (.string [112, 97, 115, 115, 97, 110, 116])] [], .slice [.lit (.string [100, 105, 115, 112, 108, 97, 121, 101, 100]), .lit (.string [114, 105, 115, 105, 110, 103])] [], .slice [.lit (.string [115, 119, 105, 109, 109, 105, 110, 103]), .lit (.string [117, 112, 114, 105, 103, 104, 116])] [], .nil, .nil, .nil, .nil, .nil]

/-- 'laws.FnFilling': WHATEVER THE INPUT: true; the input reads as it did. -/
def fnFillingSpec : ChangeSpec := { name := "fnFilling", fn := fun _ => fun
  | [d] => { results := [.lit (.bool true)], args := [d] }
  | _ => none }
def fnFillingRow : OpenClaim := { program := "ythapidnjioindaadoor", sum := "f716edf39d3a2355cd7bb7be5039518fc286fa99d57abe7c742e73b1cbfe75c8", func := "loop.example/g00884/laws.FnFilling", spec := "fnFilling", unfollowed := true, recurses := true, named := ["math/bits.deBruijn32tab", "math/bits.deBruijn64tab"], apart := false, laid := [("math/bits.deBruijn32tab", laid_math_bits_deBruijn32tab), ("math/bits.deBruijn64tab", laid_math_bits_deBruijn64tab)] }
def FnFillingSaid : Prop := fnFillingRow.holds Tryd.pinned (OpenSpec.ofChange fnFillingSpec)

/-- ITS FALSE NEIGHBOUR: 'it returns false'. Refute it at one input. -/
def fnFillingWrong : ChangeSpec := { name := "fnFilling", fn := fun _ => fun
  | [d] => { results := [.lit (.bool false)], args := [d] }
  | _ => none }
def FnFillingWrongFalsely : Prop := fnFillingRow.holds Tryd.pinned (OpenSpec.ofChange fnFillingWrong)

/-- 'laws.FnExactFillRegion': WHATEVER THE INPUT: true; the input reads as it did. -/
def fnExactFillRegionSpec : ChangeSpec := { name := "fnExactFillRegion", fn := fun _ => fun
  | [d1, d2, d3] => { results := [.lit (.bool true)], args := [d1, d2, d3] }
  | _ => none }
def fnExactFillRegionRow : OpenClaim := { program := "ythapidnjioindaadoor", sum := "f716edf39d3a2355cd7bb7be5039518fc286fa99d57abe7c742e73b1cbfe75c8", func := "loop.example/g00884/laws.FnExactFillRegion", spec := "fnExactFillRegion", unfollowed := true, recurses := true, named := ["math/bits.deBruijn32tab", "math/bits.deBruijn64tab"], apart := false, laid := [("math/bits.deBruijn32tab", laid_math_bits_deBruijn32tab), ("math/bits.deBruijn64tab", laid_math_bits_deBruijn64tab)] }
def FnExactFillRegionSaid : Prop := fnExactFillRegionRow.holds Tryd.pinned (OpenSpec.ofChange fnExactFillRegionSpec)

/-- ITS FALSE NEIGHBOUR: 'it returns false'. Refute it at one input. -/
def fnExactFillRegionWrong : ChangeSpec := { name := "fnExactFillRegion", fn := fun _ => fun
  | [d1, d2, d3] => { results := [.lit (.bool false)], args := [d1, d2, d3] }
  | _ => none }
def FnExactFillRegionWrongFalsely : Prop := fnExactFillRegionRow.holds Tryd.pinned (OpenSpec.ofChange fnExactFillRegionWrong)

/-- 'laws.FnExactLargestBoxes': WHATEVER THE INPUT: true; the input reads as it did. -/
def fnExactLargestBoxesSpec : ChangeSpec := { name := "fnExactLargestBoxes", fn := fun _ => fun
  | [d1, d2] => { results := [.lit (.bool true)], args := [d1, d2] }
  | _ => none }
def fnExactLargestBoxesRow : OpenClaim := { program := "ythapidnjioindaadoor", sum := "f716edf39d3a2355cd7bb7be5039518fc286fa99d57abe7c742e73b1cbfe75c8", func := "loop.example/g00884/laws.FnExactLargestBoxes", spec := "fnExactLargestBoxes", unfollowed := true, recurses := true, named := ["math/bits.deBruijn32tab", "math/bits.deBruijn64tab"], apart := false, laid := [("math/bits.deBruijn32tab", laid_math_bits_deBruijn32tab), ("math/bits.deBruijn64tab", laid_math_bits_deBruijn64tab)] }
def FnExactLargestBoxesSaid : Prop := fnExactLargestBoxesRow.holds Tryd.pinned (OpenSpec.ofChange fnExactLargestBoxesSpec)

/-- ITS FALSE NEIGHBOUR: 'it returns false'. Refute it at one input. -/
def fnExactLargestBoxesWrong : ChangeSpec := { name := "fnExactLargestBoxes", fn := fun _ => fun
  | [d1, d2] => { results := [.lit (.bool false)], args := [d1, d2] }
  | _ => none }
def FnExactLargestBoxesWrongFalsely : Prop := fnExactLargestBoxesRow.holds Tryd.pinned (OpenSpec.ofChange fnExactLargestBoxesWrong)

/-- 'laws.FnExactArmsOrdinary': WHATEVER THE INPUT: true; the input reads as it did. -/
def fnExactArmsOrdinarySpec : ChangeSpec := { name := "fnExactArmsOrdinary", vars := ["loop.example/g00884/impl.attitudeWords", "loop.example/g00884/impl.lineOffsets"], fn := fun _ => fun
  | [d, g1, g2] => { results := [.lit (.bool true)], args := [d], vars := [g1, g2] }
  | _ => none }
def fnExactArmsOrdinaryRow : OpenClaim := { program := "ythapidnjioindaadoor", sum := "f716edf39d3a2355cd7bb7be5039518fc286fa99d57abe7c742e73b1cbfe75c8", func := "loop.example/g00884/laws.FnExactArmsOrdinary", spec := "fnExactArmsOrdinary", unfollowed := true, recurses := true, named := ["loop.example/g00884/impl.attitudeWords", "loop.example/g00884/impl.lineOffsets"], apart := false, laid := [("loop.example/g00884/impl.lineOffsets", laid_loop_example_g00884_impl_lineOffsets), ("loop.example/g00884/impl.attitudeWords", laid_loop_example_g00884_impl_attitudeWords)] }
def FnExactArmsOrdinarySaid : Prop := fnExactArmsOrdinaryRow.holds Tryd.pinned (OpenSpec.ofChange fnExactArmsOrdinarySpec)

/-- ITS FALSE NEIGHBOUR: 'it returns false'. Refute it at one input. -/
def fnExactArmsOrdinaryWrong : ChangeSpec := { name := "fnExactArmsOrdinary", vars := ["loop.example/g00884/impl.attitudeWords", "loop.example/g00884/impl.lineOffsets"], fn := fun _ => fun
  | [d, g1, g2] => { results := [.lit (.bool false)], args := [d], vars := [g1, g2] }
  | _ => none }
def FnExactArmsOrdinaryWrongFalsely : Prop := fnExactArmsOrdinaryRow.holds Tryd.pinned (OpenSpec.ofChange fnExactArmsOrdinaryWrong)

/-- 'laws.FnExactGroundOf': WHATEVER THE INPUT: true; the input reads as it did. -/
def fnExactGroundOfSpec : ChangeSpec := { name := "fnExactGroundOf", vars := ["loop.example/g00884/impl.attitudeWords", "loop.example/g00884/impl.lineOffsets"], fn := fun _ => fun
  | [d, g1, g2] => { results := [.lit (.bool true)], args := [d], vars := [g1, g2] }
  | _ => none }
def fnExactGroundOfRow : OpenClaim := { program := "ythapidnjioindaadoor", sum := "f716edf39d3a2355cd7bb7be5039518fc286fa99d57abe7c742e73b1cbfe75c8", func := "loop.example/g00884/laws.FnExactGroundOf", spec := "fnExactGroundOf", unfollowed := true, recurses := true, named := ["loop.example/g00884/impl.attitudeWords", "loop.example/g00884/impl.lineOffsets"], apart := false, laid := [("loop.example/g00884/impl.lineOffsets", laid_loop_example_g00884_impl_lineOffsets), ("loop.example/g00884/impl.attitudeWords", laid_loop_example_g00884_impl_attitudeWords)] }
def FnExactGroundOfSaid : Prop := fnExactGroundOfRow.holds Tryd.pinned (OpenSpec.ofChange fnExactGroundOfSpec)

/-- ITS FALSE NEIGHBOUR: 'it returns false'. Refute it at one input. -/
def fnExactGroundOfWrong : ChangeSpec := { name := "fnExactGroundOf", vars := ["loop.example/g00884/impl.attitudeWords", "loop.example/g00884/impl.lineOffsets"], fn := fun _ => fun
  | [d, g1, g2] => { results := [.lit (.bool false)], args := [d], vars := [g1, g2] }
  | _ => none }
def FnExactGroundOfWrongFalsely : Prop := fnExactGroundOfRow.holds Tryd.pinned (OpenSpec.ofChange fnExactGroundOfWrong)

/-- 'laws.FnExactPlaceCharges': WHATEVER THE INPUT: true; the input reads as it did. -/
def fnExactPlaceChargesSpec : ChangeSpec := { name := "fnExactPlaceCharges", vars := ["loop.example/g00884/impl.attitudeWords", "loop.example/g00884/impl.lineOffsets"], fn := fun _ => fun
  | [d, g1, g2] => { results := [.lit (.bool true)], args := [d], vars := [g1, g2] }
  | _ => none }
def fnExactPlaceChargesRow : OpenClaim := { program := "ythapidnjioindaadoor", sum := "f716edf39d3a2355cd7bb7be5039518fc286fa99d57abe7c742e73b1cbfe75c8", func := "loop.example/g00884/laws.FnExactPlaceCharges", spec := "fnExactPlaceCharges", unfollowed := true, recurses := true, named := ["loop.example/g00884/impl.attitudeWords", "loop.example/g00884/impl.lineOffsets", "math/bits.deBruijn32tab", "math/bits.deBruijn64tab"], apart := false, laid := [("math/bits.deBruijn32tab", laid_math_bits_deBruijn32tab), ("math/bits.deBruijn64tab", laid_math_bits_deBruijn64tab), ("loop.example/g00884/impl.lineOffsets", laid_loop_example_g00884_impl_lineOffsets), ("loop.example/g00884/impl.attitudeWords", laid_loop_example_g00884_impl_attitudeWords)] }
def FnExactPlaceChargesSaid : Prop := fnExactPlaceChargesRow.holds Tryd.pinned (OpenSpec.ofChange fnExactPlaceChargesSpec)

/-- ITS FALSE NEIGHBOUR: 'it returns false'. Refute it at one input. -/
def fnExactPlaceChargesWrong : ChangeSpec := { name := "fnExactPlaceCharges", vars := ["loop.example/g00884/impl.attitudeWords", "loop.example/g00884/impl.lineOffsets"], fn := fun _ => fun
  | [d, g1, g2] => { results := [.lit (.bool false)], args := [d], vars := [g1, g2] }
  | _ => none }
def FnExactPlaceChargesWrongFalsely : Prop := fnExactPlaceChargesRow.holds Tryd.pinned (OpenSpec.ofChange fnExactPlaceChargesWrong)

/-- 'laws.FnRegions': WHATEVER THE INPUT: true; the input reads as it did. -/
def fnRegionsSpec : ChangeSpec := { name := "fnRegions", fn := fun _ => fun
  | [d] => { results := [.lit (.bool true)], args := [d] }
  | _ => none }
def fnRegionsRow : OpenClaim := { program := "ythapidnjioindaadoor", sum := "f716edf39d3a2355cd7bb7be5039518fc286fa99d57abe7c742e73b1cbfe75c8", func := "loop.example/g00884/laws.FnRegions", spec := "fnRegions", unfollowed := true, recurses := true, named := ["math/bits.deBruijn32tab", "math/bits.deBruijn64tab"], apart := false, laid := [("math/bits.deBruijn32tab", laid_math_bits_deBruijn32tab), ("math/bits.deBruijn64tab", laid_math_bits_deBruijn64tab)] }
def FnRegionsSaid : Prop := fnRegionsRow.holds Tryd.pinned (OpenSpec.ofChange fnRegionsSpec)

/-- ITS FALSE NEIGHBOUR: 'it returns false'. Refute it at one input. -/
def fnRegionsWrong : ChangeSpec := { name := "fnRegions", fn := fun _ => fun
  | [d] => { results := [.lit (.bool false)], args := [d] }
  | _ => none }
def FnRegionsWrongFalsely : Prop := fnRegionsRow.holds Tryd.pinned (OpenSpec.ofChange fnRegionsWrong)

/- THE SECOND FORM. 'bulk': how many values and letters a reading holds, each counted each time it is reached (what is shared counts as often as it is met; a slice's spare places count too). A statement '..UptoSaid' is the law's where the arguments, and the package variables that the reading takes, are together of bulk at most 1048576: NARROWER than '..Said'. Prove '..Said' where nothing that the law and all that it calls make is longer than what came in: it says more and counts as full. Else prove '..UptoSaid'. A law counts once. -/
mutual
def uptoBulk {H : Type} : DataW H → Nat
  | .lit (.string bytes) => bytes.length + 1
  | .lit _ => 1
  | .nil => 1
  | .ptr d => uptoBulk d + 1
  | .slice elems spare => uptoBulkAll elems + uptoBulkAll spare + 1
  | .agg parts => uptoBulkAll parts + 1
  | .iface _ d => uptoBulk d + 1
  | .map entries => uptoBulkEntries entries + 1
  | .held _ => 1
def uptoBulkAll {H : Type} : List (DataW H) → Nat
  | [] => 0
  | d :: r => uptoBulk d + uptoBulkAll r
def uptoBulkEntries {H : Type} : List (Lit × DataW H) → Nat
  | [] => 0
  | x :: r => uptoBulkEntry x + uptoBulkEntries r
def uptoBulkEntry {H : Type} : Lit × DataW H → Nat
  | (.string bytes, d) => bytes.length + uptoBulk d + 1
  | (_, d) => uptoBulk d + 1
 end
def uptoSmall : (H : Type) → List (DataW H) → Bool := fun _ ds => decide (uptoBulkAll ds ≤ 1048576)
def OpenSpec.upto (s : _root_.Go.ChangeSpec) : _root_.Go.OpenSpec := { _root_.Go.OpenSpec.ofChange s with cond := some uptoSmall }

/-- 'laws.FnFilling', WHERE WHAT IT READS IS OF BULK AT MOST 1048576: true; the input reads as it did. -/
def fnFillingUptoRow : OpenClaim := { program := "ythapidnjioindaadoor", sum := "f716edf39d3a2355cd7bb7be5039518fc286fa99d57abe7c742e73b1cbfe75c8", func := "loop.example/g00884/laws.FnFilling", spec := "fnFilling", unfollowed := true, recurses := true, named := ["math/bits.deBruijn32tab", "math/bits.deBruijn64tab"], apart := false, laid := [("math/bits.deBruijn32tab", laid_math_bits_deBruijn32tab), ("math/bits.deBruijn64tab", laid_math_bits_deBruijn64tab)], narrowed := true }
def FnFillingUptoSaid : Prop := fnFillingUptoRow.holds Tryd.pinned (OpenSpec.upto fnFillingSpec)

/-- 'laws.FnExactFillRegion', WHERE WHAT IT READS IS OF BULK AT MOST 1048576: true; the input reads as it did. -/
def fnExactFillRegionUptoRow : OpenClaim := { program := "ythapidnjioindaadoor", sum := "f716edf39d3a2355cd7bb7be5039518fc286fa99d57abe7c742e73b1cbfe75c8", func := "loop.example/g00884/laws.FnExactFillRegion", spec := "fnExactFillRegion", unfollowed := true, recurses := true, named := ["math/bits.deBruijn32tab", "math/bits.deBruijn64tab"], apart := false, laid := [("math/bits.deBruijn32tab", laid_math_bits_deBruijn32tab), ("math/bits.deBruijn64tab", laid_math_bits_deBruijn64tab)], narrowed := true }
def FnExactFillRegionUptoSaid : Prop := fnExactFillRegionUptoRow.holds Tryd.pinned (OpenSpec.upto fnExactFillRegionSpec)

/-- 'laws.FnExactLargestBoxes', WHERE WHAT IT READS IS OF BULK AT MOST 1048576: true; the input reads as it did. -/
def fnExactLargestBoxesUptoRow : OpenClaim := { program := "ythapidnjioindaadoor", sum := "f716edf39d3a2355cd7bb7be5039518fc286fa99d57abe7c742e73b1cbfe75c8", func := "loop.example/g00884/laws.FnExactLargestBoxes", spec := "fnExactLargestBoxes", unfollowed := true, recurses := true, named := ["math/bits.deBruijn32tab", "math/bits.deBruijn64tab"], apart := false, laid := [("math/bits.deBruijn32tab", laid_math_bits_deBruijn32tab), ("math/bits.deBruijn64tab", laid_math_bits_deBruijn64tab)], narrowed := true }
def FnExactLargestBoxesUptoSaid : Prop := fnExactLargestBoxesUptoRow.holds Tryd.pinned (OpenSpec.upto fnExactLargestBoxesSpec)

/-- 'laws.FnExactArmsOrdinary', WHERE WHAT IT READS IS OF BULK AT MOST 1048576: true; the input reads as it did. -/
def fnExactArmsOrdinaryUptoRow : OpenClaim := { program := "ythapidnjioindaadoor", sum := "f716edf39d3a2355cd7bb7be5039518fc286fa99d57abe7c742e73b1cbfe75c8", func := "loop.example/g00884/laws.FnExactArmsOrdinary", spec := "fnExactArmsOrdinary", unfollowed := true, recurses := true, named := ["loop.example/g00884/impl.attitudeWords", "loop.example/g00884/impl.lineOffsets"], apart := false, laid := [("loop.example/g00884/impl.lineOffsets", laid_loop_example_g00884_impl_lineOffsets), ("loop.example/g00884/impl.attitudeWords", laid_loop_example_g00884_impl_attitudeWords)], narrowed := true }
def FnExactArmsOrdinaryUptoSaid : Prop := fnExactArmsOrdinaryUptoRow.holds Tryd.pinned (OpenSpec.upto fnExactArmsOrdinarySpec)

/-- 'laws.FnExactGroundOf', WHERE WHAT IT READS IS OF BULK AT MOST 1048576: true; the input reads as it did. -/
def fnExactGroundOfUptoRow : OpenClaim := { program := "ythapidnjioindaadoor", sum := "f716edf39d3a2355cd7bb7be5039518fc286fa99d57abe7c742e73b1cbfe75c8", func := "loop.example/g00884/laws.FnExactGroundOf", spec := "fnExactGroundOf", unfollowed := true, recurses := true, named := ["loop.example/g00884/impl.attitudeWords", "loop.example/g00884/impl.lineOffsets"], apart := false, laid := [("loop.example/g00884/impl.lineOffsets", laid_loop_example_g00884_impl_lineOffsets), ("loop.example/g00884/impl.attitudeWords", laid_loop_example_g00884_impl_attitudeWords)], narrowed := true }
def FnExactGroundOfUptoSaid : Prop := fnExactGroundOfUptoRow.holds Tryd.pinned (OpenSpec.upto fnExactGroundOfSpec)

/-- 'laws.FnExactPlaceCharges', WHERE WHAT IT READS IS OF BULK AT MOST 1048576: true; the input reads as it did. -/
def fnExactPlaceChargesUptoRow : OpenClaim := { program := "ythapidnjioindaadoor", sum := "f716edf39d3a2355cd7bb7be5039518fc286fa99d57abe7c742e73b1cbfe75c8", func := "loop.example/g00884/laws.FnExactPlaceCharges", spec := "fnExactPlaceCharges", unfollowed := true, recurses := true, named := ["loop.example/g00884/impl.attitudeWords", "loop.example/g00884/impl.lineOffsets", "math/bits.deBruijn32tab", "math/bits.deBruijn64tab"], apart := false, laid := [("math/bits.deBruijn32tab", laid_math_bits_deBruijn32tab), ("math/bits.deBruijn64tab", laid_math_bits_deBruijn64tab), ("loop.example/g00884/impl.lineOffsets", laid_loop_example_g00884_impl_lineOffsets), ("loop.example/g00884/impl.attitudeWords", laid_loop_example_g00884_impl_attitudeWords)], narrowed := true }
def FnExactPlaceChargesUptoSaid : Prop := fnExactPlaceChargesUptoRow.holds Tryd.pinned (OpenSpec.upto fnExactPlaceChargesSpec)

/-- 'laws.FnRegions', WHERE WHAT IT READS IS OF BULK AT MOST 1048576: true; the input reads as it did. -/
def fnRegionsUptoRow : OpenClaim := { program := "ythapidnjioindaadoor", sum := "f716edf39d3a2355cd7bb7be5039518fc286fa99d57abe7c742e73b1cbfe75c8", func := "loop.example/g00884/laws.FnRegions", spec := "fnRegions", unfollowed := true, recurses := true, named := ["math/bits.deBruijn32tab", "math/bits.deBruijn64tab"], apart := false, laid := [("math/bits.deBruijn32tab", laid_math_bits_deBruijn32tab), ("math/bits.deBruijn64tab", laid_math_bits_deBruijn64tab)], narrowed := true }
def FnRegionsUptoSaid : Prop := fnRegionsUptoRow.holds Tryd.pinned (OpenSpec.upto fnRegionsSpec)

end Rows
end Go.Proofs.YthapidnjioindaaDoor
