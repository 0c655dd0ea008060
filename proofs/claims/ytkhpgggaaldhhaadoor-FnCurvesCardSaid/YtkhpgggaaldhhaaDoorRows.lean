/-
  NARROWER THAN 'FOR EVERY INPUT', by the rows' own cells (each row's printed sentence says how): FnLines: laid · FnCurves: laid · FnExactLineOffset: laid · FnExactLinePeriod: laid · FnExactFieldPart: laid · FnExactFieldTincture: laid · FnExactFieldRegion: laid · FnExactLinedOrdinary: laid · FnExactLineTurns: laid · FnExactSwungCells: laid.
  DERIVED. THE GIVEN ROWS OF THIS SEAT. 10 by the template 'for every input the law returns true; each argument reads behind the call as it read before'; 0 by the template 'total and deterministic' (their statements: YtkhpgggaaldhhaaDoorTotals.lean).
  GIVEN WITH THE SEED: the statements are not yours to turn. If you find one false, say at which input.
  Laid BY PROGRAM, IN A SANDBOX (cutbox-rows.mjs): the forced cells as the released guide's own fill.sh prints them over the translation dfcf4bf5c96476a1… (all of the seat's roots in one cut). By AI agents, Wed Nov 11 2026. No macro, syntax, notation, axiom, sorry.
-/
import Derived.Test.YtkhpgggaaldhhaaDoorChecked
import GoSem.Claim
import GoSem.ClaimJoined
import GoSem.ClaimMapViews
import Derived.JoinedTies
import Derived.KernelRfl
namespace Go.Proofs.YtkhpgggaaldhhaaDoor
/- THE CELL 'sum', in the pinned program and in every row, IS THE sha256 OF THE DUMP (.gsa) THAT YtkhpgggaaldhhaaDoorProg.lean LOADS. Nothing in Lean hashes anything: it is a label: what it is worth is what the hold of that sum in a sandbox is worth. -/
noncomputable def Tryd.pinned : Pinned := { name := "ytkhpgggaaldhhaadoor", sum := "dfcf4bf5c96476a1cbbc65d54d5a257bb869ae2e92166a5e4b3b684db2af637a", checked := Tryd.checked }
namespace Rows
def none {H : Type} : Left H := { results := [], args := [] }

/- WHAT THE LISTED PACKAGE-LEVEL VARIABLES READ AS WHEN THE CALL BEGINS. Each datum BY PROGRAM (the guide's laid-datum.mjs) off the statement by which the dump's own 'gosem.cut.vars' lays the variable. In a bare row this is a premise. The card (YtkhpgggaaldhhaaDoorCards.lean) ties it to the program's text. -/
def laid_loop_example_g00884_impl_lineOffsets {H : Type} : DataW H := .agg [.slice [.lit (.int .i64 0)] [], .slice [.lit (.int .i64 0), .lit (.int .i64 1), .lit (.int .i64 1), .lit (.int .i64 0)] [], .slice [.lit (.int .i64 0), .lit (.int .i64 1), .lit (.int .i64 1), .lit (.int .i64 0), .lit (.int .i64 0), .lit (.int .i64 (-1)), .lit (.int .i64 (-1)), .lit (.int .i64 0)] [], .slice [.lit (.int .i64 0), .lit (.int .i64 0), .lit (.int .i64 2), .lit (.int .i64 2)] [], .slice [.lit (.int .i64 0), .lit (.int .i64 1), .lit (.int .i64 2), .lit (.int .i64 1)] []]

/-- 'laws.FnLines': WHATEVER THE INPUT: true; the input reads as it did. -/
def fnLinesSpec : ChangeSpec := { name := "fnLines", vars := ["loop.example/g00884/impl.lineOffsets"], fn := fun _ => fun
  | [d, g1] => { results := [.lit (.bool true)], args := [d], vars := [g1] }
  | _ => none }
def fnLinesRow : OpenClaim := { program := "ytkhpgggaaldhhaadoor", sum := "dfcf4bf5c96476a1cbbc65d54d5a257bb869ae2e92166a5e4b3b684db2af637a", func := "loop.example/g00884/laws.FnLines", spec := "fnLines", unfollowed := true, recurses := true, named := ["loop.example/g00884/impl.lineOffsets"], apart := false, laid := [("loop.example/g00884/impl.lineOffsets", laid_loop_example_g00884_impl_lineOffsets)] }
def FnLinesSaid : Prop := fnLinesRow.holds Tryd.pinned (OpenSpec.ofChange fnLinesSpec)

/-- ITS FALSE NEIGHBOUR: 'it returns false'. Refute it at one input. -/
def fnLinesWrong : ChangeSpec := { name := "fnLines", vars := ["loop.example/g00884/impl.lineOffsets"], fn := fun _ => fun
  | [d, g1] => { results := [.lit (.bool false)], args := [d], vars := [g1] }
  | _ => none }
def FnLinesWrongFalsely : Prop := fnLinesRow.holds Tryd.pinned (OpenSpec.ofChange fnLinesWrong)

/-- 'laws.FnCurves': WHATEVER THE INPUT: true; the input reads as it did. -/
def fnCurvesSpec : ChangeSpec := { name := "fnCurves", vars := ["loop.example/g00884/impl.lineOffsets"], fn := fun _ => fun
  | [d, g1] => { results := [.lit (.bool true)], args := [d], vars := [g1] }
  | _ => none }
def fnCurvesRow : OpenClaim := { program := "ytkhpgggaaldhhaadoor", sum := "dfcf4bf5c96476a1cbbc65d54d5a257bb869ae2e92166a5e4b3b684db2af637a", func := "loop.example/g00884/laws.FnCurves", spec := "fnCurves", unfollowed := true, recurses := true, named := ["loop.example/g00884/impl.lineOffsets"], apart := false, laid := [("loop.example/g00884/impl.lineOffsets", laid_loop_example_g00884_impl_lineOffsets)] }
def FnCurvesSaid : Prop := fnCurvesRow.holds Tryd.pinned (OpenSpec.ofChange fnCurvesSpec)

/-- ITS FALSE NEIGHBOUR: 'it returns false'. Refute it at one input. -/
def fnCurvesWrong : ChangeSpec := { name := "fnCurves", vars := ["loop.example/g00884/impl.lineOffsets"], fn := fun _ => fun
  | [d, g1] => { results := [.lit (.bool false)], args := [d], vars := [g1] }
  | _ => none }
def FnCurvesWrongFalsely : Prop := fnCurvesRow.holds Tryd.pinned (OpenSpec.ofChange fnCurvesWrong)

/-- 'laws.FnExactLineOffset': WHATEVER THE INPUT: true; the input reads as it did. -/
def fnExactLineOffsetSpec : ChangeSpec := { name := "fnExactLineOffset", vars := ["loop.example/g00884/impl.lineOffsets"], fn := fun _ => fun
  | [d1, d2, g1] => { results := [.lit (.bool true)], args := [d1, d2], vars := [g1] }
  | _ => none }
def fnExactLineOffsetRow : OpenClaim := { program := "ytkhpgggaaldhhaadoor", sum := "dfcf4bf5c96476a1cbbc65d54d5a257bb869ae2e92166a5e4b3b684db2af637a", func := "loop.example/g00884/laws.FnExactLineOffset", spec := "fnExactLineOffset", unfollowed := true, recurses := true, named := ["loop.example/g00884/impl.lineOffsets"], apart := false, laid := [("loop.example/g00884/impl.lineOffsets", laid_loop_example_g00884_impl_lineOffsets)] }
def FnExactLineOffsetSaid : Prop := fnExactLineOffsetRow.holds Tryd.pinned (OpenSpec.ofChange fnExactLineOffsetSpec)

/-- ITS FALSE NEIGHBOUR: 'it returns false'. Refute it at one input. -/
def fnExactLineOffsetWrong : ChangeSpec := { name := "fnExactLineOffset", vars := ["loop.example/g00884/impl.lineOffsets"], fn := fun _ => fun
  | [d1, d2, g1] => { results := [.lit (.bool false)], args := [d1, d2], vars := [g1] }
  | _ => none }
def FnExactLineOffsetWrongFalsely : Prop := fnExactLineOffsetRow.holds Tryd.pinned (OpenSpec.ofChange fnExactLineOffsetWrong)

/-- 'laws.FnExactLinePeriod': WHATEVER THE INPUT: true; the input reads as it did. -/
def fnExactLinePeriodSpec : ChangeSpec := { name := "fnExactLinePeriod", vars := ["loop.example/g00884/impl.lineOffsets"], fn := fun _ => fun
  | [d, g1] => { results := [.lit (.bool true)], args := [d], vars := [g1] }
  | _ => none }
def fnExactLinePeriodRow : OpenClaim := { program := "ytkhpgggaaldhhaadoor", sum := "dfcf4bf5c96476a1cbbc65d54d5a257bb869ae2e92166a5e4b3b684db2af637a", func := "loop.example/g00884/laws.FnExactLinePeriod", spec := "fnExactLinePeriod", named := ["loop.example/g00884/impl.lineOffsets"], apart := false, laid := [("loop.example/g00884/impl.lineOffsets", laid_loop_example_g00884_impl_lineOffsets)] }
def FnExactLinePeriodSaid : Prop := fnExactLinePeriodRow.holds Tryd.pinned (OpenSpec.ofChange fnExactLinePeriodSpec)

/-- ITS FALSE NEIGHBOUR: 'it returns false'. Refute it at one input. -/
def fnExactLinePeriodWrong : ChangeSpec := { name := "fnExactLinePeriod", vars := ["loop.example/g00884/impl.lineOffsets"], fn := fun _ => fun
  | [d, g1] => { results := [.lit (.bool false)], args := [d], vars := [g1] }
  | _ => none }
def FnExactLinePeriodWrongFalsely : Prop := fnExactLinePeriodRow.holds Tryd.pinned (OpenSpec.ofChange fnExactLinePeriodWrong)

/-- 'laws.FnExactFieldPart': WHATEVER THE INPUT: true; the input reads as it did. -/
def fnExactFieldPartSpec : ChangeSpec := { name := "fnExactFieldPart", vars := ["loop.example/g00884/impl.lineOffsets"], fn := fun _ => fun
  | [d1, d2, d3, g1] => { results := [.lit (.bool true)], args := [d1, d2, d3], vars := [g1] }
  | _ => none }
def fnExactFieldPartRow : OpenClaim := { program := "ytkhpgggaaldhhaadoor", sum := "dfcf4bf5c96476a1cbbc65d54d5a257bb869ae2e92166a5e4b3b684db2af637a", func := "loop.example/g00884/laws.FnExactFieldPart", spec := "fnExactFieldPart", unfollowed := true, recurses := true, named := ["loop.example/g00884/impl.lineOffsets"], apart := false, laid := [("loop.example/g00884/impl.lineOffsets", laid_loop_example_g00884_impl_lineOffsets)] }
def FnExactFieldPartSaid : Prop := fnExactFieldPartRow.holds Tryd.pinned (OpenSpec.ofChange fnExactFieldPartSpec)

/-- ITS FALSE NEIGHBOUR: 'it returns false'. Refute it at one input. -/
def fnExactFieldPartWrong : ChangeSpec := { name := "fnExactFieldPart", vars := ["loop.example/g00884/impl.lineOffsets"], fn := fun _ => fun
  | [d1, d2, d3, g1] => { results := [.lit (.bool false)], args := [d1, d2, d3], vars := [g1] }
  | _ => none }
def FnExactFieldPartWrongFalsely : Prop := fnExactFieldPartRow.holds Tryd.pinned (OpenSpec.ofChange fnExactFieldPartWrong)

/-- 'laws.FnExactFieldTincture': WHATEVER THE INPUT: true; the input reads as it did. -/
def fnExactFieldTinctureSpec : ChangeSpec := { name := "fnExactFieldTincture", vars := ["loop.example/g00884/impl.lineOffsets"], fn := fun _ => fun
  | [d1, d2, d3, g1] => { results := [.lit (.bool true)], args := [d1, d2, d3], vars := [g1] }
  | _ => none }
def fnExactFieldTinctureRow : OpenClaim := { program := "ytkhpgggaaldhhaadoor", sum := "dfcf4bf5c96476a1cbbc65d54d5a257bb869ae2e92166a5e4b3b684db2af637a", func := "loop.example/g00884/laws.FnExactFieldTincture", spec := "fnExactFieldTincture", unfollowed := true, recurses := true, named := ["loop.example/g00884/impl.lineOffsets"], apart := false, laid := [("loop.example/g00884/impl.lineOffsets", laid_loop_example_g00884_impl_lineOffsets)] }
def FnExactFieldTinctureSaid : Prop := fnExactFieldTinctureRow.holds Tryd.pinned (OpenSpec.ofChange fnExactFieldTinctureSpec)

/-- ITS FALSE NEIGHBOUR: 'it returns false'. Refute it at one input. -/
def fnExactFieldTinctureWrong : ChangeSpec := { name := "fnExactFieldTincture", vars := ["loop.example/g00884/impl.lineOffsets"], fn := fun _ => fun
  | [d1, d2, d3, g1] => { results := [.lit (.bool false)], args := [d1, d2, d3], vars := [g1] }
  | _ => none }
def FnExactFieldTinctureWrongFalsely : Prop := fnExactFieldTinctureRow.holds Tryd.pinned (OpenSpec.ofChange fnExactFieldTinctureWrong)

/-- 'laws.FnExactFieldRegion': WHATEVER THE INPUT: true; the input reads as it did. -/
def fnExactFieldRegionSpec : ChangeSpec := { name := "fnExactFieldRegion", vars := ["loop.example/g00884/impl.lineOffsets"], fn := fun _ => fun
  | [d1, d2, g1] => { results := [.lit (.bool true)], args := [d1, d2], vars := [g1] }
  | _ => none }
def fnExactFieldRegionRow : OpenClaim := { program := "ytkhpgggaaldhhaadoor", sum := "dfcf4bf5c96476a1cbbc65d54d5a257bb869ae2e92166a5e4b3b684db2af637a", func := "loop.example/g00884/laws.FnExactFieldRegion", spec := "fnExactFieldRegion", unfollowed := true, recurses := true, named := ["loop.example/g00884/impl.lineOffsets"], apart := false, laid := [("loop.example/g00884/impl.lineOffsets", laid_loop_example_g00884_impl_lineOffsets)] }
def FnExactFieldRegionSaid : Prop := fnExactFieldRegionRow.holds Tryd.pinned (OpenSpec.ofChange fnExactFieldRegionSpec)

/-- ITS FALSE NEIGHBOUR: 'it returns false'. Refute it at one input. -/
def fnExactFieldRegionWrong : ChangeSpec := { name := "fnExactFieldRegion", vars := ["loop.example/g00884/impl.lineOffsets"], fn := fun _ => fun
  | [d1, d2, g1] => { results := [.lit (.bool false)], args := [d1, d2], vars := [g1] }
  | _ => none }
def FnExactFieldRegionWrongFalsely : Prop := fnExactFieldRegionRow.holds Tryd.pinned (OpenSpec.ofChange fnExactFieldRegionWrong)

/-- 'laws.FnExactLinedOrdinary': WHATEVER THE INPUT: true; the input reads as it did. -/
def fnExactLinedOrdinarySpec : ChangeSpec := { name := "fnExactLinedOrdinary", vars := ["loop.example/g00884/impl.lineOffsets"], fn := fun _ => fun
  | [d1, d2, g1] => { results := [.lit (.bool true)], args := [d1, d2], vars := [g1] }
  | _ => none }
def fnExactLinedOrdinaryRow : OpenClaim := { program := "ytkhpgggaaldhhaadoor", sum := "dfcf4bf5c96476a1cbbc65d54d5a257bb869ae2e92166a5e4b3b684db2af637a", func := "loop.example/g00884/laws.FnExactLinedOrdinary", spec := "fnExactLinedOrdinary", unfollowed := true, recurses := true, named := ["loop.example/g00884/impl.lineOffsets"], apart := false, laid := [("loop.example/g00884/impl.lineOffsets", laid_loop_example_g00884_impl_lineOffsets)] }
def FnExactLinedOrdinarySaid : Prop := fnExactLinedOrdinaryRow.holds Tryd.pinned (OpenSpec.ofChange fnExactLinedOrdinarySpec)

/-- ITS FALSE NEIGHBOUR: 'it returns false'. Refute it at one input. -/
def fnExactLinedOrdinaryWrong : ChangeSpec := { name := "fnExactLinedOrdinary", vars := ["loop.example/g00884/impl.lineOffsets"], fn := fun _ => fun
  | [d1, d2, g1] => { results := [.lit (.bool false)], args := [d1, d2], vars := [g1] }
  | _ => none }
def FnExactLinedOrdinaryWrongFalsely : Prop := fnExactLinedOrdinaryRow.holds Tryd.pinned (OpenSpec.ofChange fnExactLinedOrdinaryWrong)

/-- 'laws.FnExactLineTurns': WHATEVER THE INPUT: true; the input reads as it did. -/
def fnExactLineTurnsSpec : ChangeSpec := { name := "fnExactLineTurns", vars := ["loop.example/g00884/impl.lineOffsets"], fn := fun _ => fun
  | [d1, d2, g1] => { results := [.lit (.bool true)], args := [d1, d2], vars := [g1] }
  | _ => none }
def fnExactLineTurnsRow : OpenClaim := { program := "ytkhpgggaaldhhaadoor", sum := "dfcf4bf5c96476a1cbbc65d54d5a257bb869ae2e92166a5e4b3b684db2af637a", func := "loop.example/g00884/laws.FnExactLineTurns", spec := "fnExactLineTurns", unfollowed := true, recurses := true, named := ["loop.example/g00884/impl.lineOffsets"], apart := false, laid := [("loop.example/g00884/impl.lineOffsets", laid_loop_example_g00884_impl_lineOffsets)] }
def FnExactLineTurnsSaid : Prop := fnExactLineTurnsRow.holds Tryd.pinned (OpenSpec.ofChange fnExactLineTurnsSpec)

/-- ITS FALSE NEIGHBOUR: 'it returns false'. Refute it at one input. -/
def fnExactLineTurnsWrong : ChangeSpec := { name := "fnExactLineTurns", vars := ["loop.example/g00884/impl.lineOffsets"], fn := fun _ => fun
  | [d1, d2, g1] => { results := [.lit (.bool false)], args := [d1, d2], vars := [g1] }
  | _ => none }
def FnExactLineTurnsWrongFalsely : Prop := fnExactLineTurnsRow.holds Tryd.pinned (OpenSpec.ofChange fnExactLineTurnsWrong)

/-- 'laws.FnExactSwungCells': WHATEVER THE INPUT: true; the input reads as it did. -/
def fnExactSwungCellsSpec : ChangeSpec := { name := "fnExactSwungCells", vars := ["loop.example/g00884/impl.lineOffsets"], fn := fun _ => fun
  | [d, g1] => { results := [.lit (.bool true)], args := [d], vars := [g1] }
  | _ => none }
def fnExactSwungCellsRow : OpenClaim := { program := "ytkhpgggaaldhhaadoor", sum := "dfcf4bf5c96476a1cbbc65d54d5a257bb869ae2e92166a5e4b3b684db2af637a", func := "loop.example/g00884/laws.FnExactSwungCells", spec := "fnExactSwungCells", unfollowed := true, recurses := true, named := ["loop.example/g00884/impl.lineOffsets"], apart := false, laid := [("loop.example/g00884/impl.lineOffsets", laid_loop_example_g00884_impl_lineOffsets)] }
def FnExactSwungCellsSaid : Prop := fnExactSwungCellsRow.holds Tryd.pinned (OpenSpec.ofChange fnExactSwungCellsSpec)

/-- ITS FALSE NEIGHBOUR: 'it returns false'. Refute it at one input. -/
def fnExactSwungCellsWrong : ChangeSpec := { name := "fnExactSwungCells", vars := ["loop.example/g00884/impl.lineOffsets"], fn := fun _ => fun
  | [d, g1] => { results := [.lit (.bool false)], args := [d], vars := [g1] }
  | _ => none }
def FnExactSwungCellsWrongFalsely : Prop := fnExactSwungCellsRow.holds Tryd.pinned (OpenSpec.ofChange fnExactSwungCellsWrong)

/- THE SECOND FORM. 'bulk': how many values and letters a reading holds, each counted each time it is reached (what is shared counts as often as it is met; a slice's spare places count too). A statement '..UptoSaid' is the law's where the arguments, and the package variables that the reading takes, are together of bulk at most 1048576: NARROWER than '..Said'. Prove '..Said' where nothing that the law and all that it calls make is longer than what came in: it says more and counts as full. Else prove '..UptoSaid'. A law counts once. -/
mutual
def uptoBulk {H : Type} : DataW H → Nat
  | .lit (.string bytes) => bytes.length + 1
  | .lit _ => 1
  | .nil => 1
  | .ptr d => uptoBulk d + 1
  | .slice elems spare => uptoBulkAll elems + uptoBulkAll spare + 1
  | .agg parts => uptoBulkAll parts + 1
  | .iface _ d => uptoBulk d + 1
  | .map entries => uptoBulkEntries entries + 1
  | .held _ => 1
def uptoBulkAll {H : Type} : List (DataW H) → Nat
  | [] => 0
  | d :: r => uptoBulk d + uptoBulkAll r
def uptoBulkEntries {H : Type} : List (Lit × DataW H) → Nat
  | [] => 0
  | x :: r => uptoBulkEntry x + uptoBulkEntries r
def uptoBulkEntry {H : Type} : Lit × DataW H → Nat
  | (.string bytes, d) => bytes.length + uptoBulk d + 1
  | (_, d) => uptoBulk d + 1
 end
def uptoSmall : (H : Type) → List (DataW H) → Bool := fun _ ds => decide (uptoBulkAll ds ≤ 1048576)
def OpenSpec.upto (s : _root_.Go.ChangeSpec) : _root_.Go.OpenSpec := { _root_.Go.OpenSpec.ofChange s with cond := some uptoSmall }

/-- 'laws.FnLines', WHERE WHAT IT READS IS OF BULK AT MOST 1048576: true; the input reads as it did. -/
def fnLinesUptoRow : OpenClaim := { program := "ytkhpgggaaldhhaadoor", sum := "dfcf4bf5c96476a1cbbc65d54d5a257bb869ae2e92166a5e4b3b684db2af637a", func := "loop.example/g00884/laws.FnLines", spec := "fnLines", unfollowed := true, recurses := true, named := ["loop.example/g00884/impl.lineOffsets"], apart := false, laid := [("loop.example/g00884/impl.lineOffsets", laid_loop_example_g00884_impl_lineOffsets)], narrowed := true }
def FnLinesUptoSaid : Prop := fnLinesUptoRow.holds Tryd.pinned (OpenSpec.upto fnLinesSpec)

/-- 'laws.FnCurves', WHERE WHAT IT READS IS OF BULK AT MOST 1048576: true; the input reads as it did. -/
def fnCurvesUptoRow : OpenClaim := { program := "ytkhpgggaaldhhaadoor", sum := "dfcf4bf5c96476a1cbbc65d54d5a257bb869ae2e92166a5e4b3b684db2af637a", func := "loop.example/g00884/laws.FnCurves", spec := "fnCurves", unfollowed := true, recurses := true, named := ["loop.example/g00884/impl.lineOffsets"], apart := false, laid := [("loop.example/g00884/impl.lineOffsets", laid_loop_example_g00884_impl_lineOffsets)], narrowed := true }
def FnCurvesUptoSaid : Prop := fnCurvesUptoRow.holds Tryd.pinned (OpenSpec.upto fnCurvesSpec)

/-- 'laws.FnExactLineOffset', WHERE WHAT IT READS IS OF BULK AT MOST 1048576: true; the input reads as it did. -/
def fnExactLineOffsetUptoRow : OpenClaim := { program := "ytkhpgggaaldhhaadoor", sum := "dfcf4bf5c96476a1cbbc65d54d5a257bb869ae2e92166a5e4b3b684db2af637a", func := "loop.example/g00884/laws.FnExactLineOffset", spec := "fnExactLineOffset", unfollowed := true, recurses := true, named := ["loop.example/g00884/impl.lineOffsets"], apart := false, laid := [("loop.example/g00884/impl.lineOffsets", laid_loop_example_g00884_impl_lineOffsets)], narrowed := true }
def FnExactLineOffsetUptoSaid : Prop := fnExactLineOffsetUptoRow.holds Tryd.pinned (OpenSpec.upto fnExactLineOffsetSpec)

/-- 'laws.FnExactLinePeriod', WHERE WHAT IT READS IS OF BULK AT MOST 1048576: true; the input reads as it did. -/
def fnExactLinePeriodUptoRow : OpenClaim := { program := "ytkhpgggaaldhhaadoor", sum := "dfcf4bf5c96476a1cbbc65d54d5a257bb869ae2e92166a5e4b3b684db2af637a", func := "loop.example/g00884/laws.FnExactLinePeriod", spec := "fnExactLinePeriod", named := ["loop.example/g00884/impl.lineOffsets"], apart := false, laid := [("loop.example/g00884/impl.lineOffsets", laid_loop_example_g00884_impl_lineOffsets)], narrowed := true }
def FnExactLinePeriodUptoSaid : Prop := fnExactLinePeriodUptoRow.holds Tryd.pinned (OpenSpec.upto fnExactLinePeriodSpec)

/-- 'laws.FnExactFieldPart', WHERE WHAT IT READS IS OF BULK AT MOST 1048576: true; the input reads as it did. -/
def fnExactFieldPartUptoRow : OpenClaim := { program := "ytkhpgggaaldhhaadoor", sum := "dfcf4bf5c96476a1cbbc65d54d5a257bb869ae2e92166a5e4b3b684db2af637a", func := "loop.example/g00884/laws.FnExactFieldPart", spec := "fnExactFieldPart", unfollowed := true, recurses := true, named := ["loop.example/g00884/impl.lineOffsets"], apart := false, laid := [("loop.example/g00884/impl.lineOffsets", laid_loop_example_g00884_impl_lineOffsets)], narrowed := true }
def FnExactFieldPartUptoSaid : Prop := fnExactFieldPartUptoRow.holds Tryd.pinned (OpenSpec.upto fnExactFieldPartSpec)

/-- 'laws.FnExactFieldTincture', WHERE WHAT IT READS IS OF BULK AT MOST 1048576: true; the input reads as it did. -/
def fnExactFieldTinctureUptoRow : OpenClaim := { program := "ytkhpgggaaldhhaadoor", sum := "dfcf4bf5c96476a1cbbc65d54d5a257bb869ae2e92166a5e4b3b684db2af637a", func := "loop.example/g00884/laws.FnExactFieldTincture", spec := "fnExactFieldTincture", unfollowed := true, recurses := true, named := ["loop.example/g00884/impl.lineOffsets"], apart := false, laid := [("loop.example/g00884/impl.lineOffsets", laid_loop_example_g00884_impl_lineOffsets)], narrowed := true }
def FnExactFieldTinctureUptoSaid : Prop := fnExactFieldTinctureUptoRow.holds Tryd.pinned (OpenSpec.upto fnExactFieldTinctureSpec)

/-- 'laws.FnExactFieldRegion', WHERE WHAT IT READS IS OF BULK AT MOST 1048576: true; the input reads as it did. -/
def fnExactFieldRegionUptoRow : OpenClaim := { program := "ytkhpgggaaldhhaadoor", sum := "dfcf4bf5c96476a1cbbc65d54d5a257bb869ae2e92166a5e4b3b684db2af637a", func := "loop.example/g00884/laws.FnExactFieldRegion", spec := "fnExactFieldRegion", unfollowed := true, recurses := true, named := ["loop.example/g00884/impl.lineOffsets"], apart := false, laid := [("loop.example/g00884/impl.lineOffsets", laid_loop_example_g00884_impl_lineOffsets)], narrowed := true }
def FnExactFieldRegionUptoSaid : Prop := fnExactFieldRegionUptoRow.holds Tryd.pinned (OpenSpec.upto fnExactFieldRegionSpec)

/-- 'laws.FnExactLinedOrdinary', WHERE WHAT IT READS IS OF BULK AT MOST 1048576: true; the input reads as it did. -/
def fnExactLinedOrdinaryUptoRow : OpenClaim := { program := "ytkhpgggaaldhhaadoor", sum := "dfcf4bf5c96476a1cbbc65d54d5a257bb869ae2e92166a5e4b3b684db2af637a", func := "loop.example/g00884/laws.FnExactLinedOrdinary", spec := "fnExactLinedOrdinary", unfollowed := true, recurses := true, named := ["loop.example/g00884/impl.lineOffsets"], apart := false, laid := [("loop.example/g00884/impl.lineOffsets", laid_loop_example_g00884_impl_lineOffsets)], narrowed := true }
def FnExactLinedOrdinaryUptoSaid : Prop := fnExactLinedOrdinaryUptoRow.holds Tryd.pinned (OpenSpec.upto fnExactLinedOrdinarySpec)

/-- 'laws.FnExactLineTurns', WHERE WHAT IT READS IS OF BULK AT MOST 1048576: true; the input reads as it did. -/
def fnExactLineTurnsUptoRow : OpenClaim := { program := "ytkhpgggaaldhhaadoor", sum := "dfcf4bf5c96476a1cbbc65d54d5a257bb869ae2e92166a5e4b3b684db2af637a", func := "loop.example/g00884/laws.FnExactLineTurns", spec := "fnExactLineTurns", unfollowed := true, recurses := true, named := ["loop.example/g00884/impl.lineOffsets"], apart := false, laid := [("loop.example/g00884/impl.lineOffsets", laid_loop_example_g00884_impl_lineOffsets)], narrowed := true }
def FnExactLineTurnsUptoSaid : Prop := fnExactLineTurnsUptoRow.holds Tryd.pinned (OpenSpec.upto fnExactLineTurnsSpec)

/-- 'laws.FnExactSwungCells', WHERE WHAT IT READS IS OF BULK AT MOST 1048576: true; the input reads as it did. -/
def fnExactSwungCellsUptoRow : OpenClaim := { program := "ytkhpgggaaldhhaadoor", sum := "dfcf4bf5c96476a1cbbc65d54d5a257bb869ae2e92166a5e4b3b684db2af637a", func := "loop.example/g00884/laws.FnExactSwungCells", spec := "fnExactSwungCells", unfollowed := true, recurses := true, named := ["loop.example/g00884/impl.lineOffsets"], apart := false, laid := [("loop.example/g00884/impl.lineOffsets", laid_loop_example_g00884_impl_lineOffsets)], narrowed := true }
def FnExactSwungCellsUptoSaid : Prop := fnExactSwungCellsUptoRow.holds Tryd.pinned (OpenSpec.upto fnExactSwungCellsSpec)

end Rows
end Go.Proofs.YtkhpgggaaldhhaaDoor
