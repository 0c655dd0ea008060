/-
  NARROWER THAN 'FOR EVERY INPUT', by the rows' own cells (each row's printed sentence says how): FnArms: laid · FnArmsParts: laid · FnExactIsValidArms: laid · FnExactLayerCount: laid · FnExactArmsTinctures: laid · FnExactChargeTotal: laid · FnExactWithField: laid · FnExactWithOrdinary: laid · FnExactWithGroups: laid · FnExactReplaceTincture: laid · FnExactSimplest: laid · FnExactSameShape: laid.
  DERIVED. THE GIVEN ROWS OF THIS SEAT. 12 by the template 'for every input the law returns true; each argument reads behind the call as it read before'; 0 by the template 'total and deterministic' (their statements: YtapjiffililmgaaDoorTotals.lean).
  GIVEN WITH THE SEED: the statements are not yours to turn. If you find one false, say at which input.
  Laid BY PROGRAM, IN A SANDBOX (cutbox-rows.mjs): the forced cells as the released guide's own fill.sh prints them over the translation e0a2f1d8197ed5ed… (all of the seat's roots in one cut). By AI agents, Wed Nov 11 2026. No macro, syntax, notation, axiom, sorry.
-/
import Derived.Test.YtapjiffililmgaaDoorChecked
import GoSem.Claim
import GoSem.ClaimJoined
import GoSem.ClaimMapViews
import Derived.JoinedTies
import Derived.KernelRfl
namespace Go.Proofs.YtapjiffililmgaaDoor
/- THE CELL 'sum', in the pinned program and in every row, IS THE sha256 OF THE DUMP (.gsa) THAT YtapjiffililmgaaDoorProg.lean LOADS. Nothing in Lean hashes anything: it is a label: what it is worth is what the hold of that sum in a sandbox is worth. -/
noncomputable def Tryd.pinned : Pinned := { name := "ytapjiffililmgaadoor", sum := "e0a2f1d8197ed5ed77d79244ec0e467299f7b9a9738e99cac432be373f37f330", checked := Tryd.checked }
namespace Rows
def none {H : Type} : Left H := { results := [], args := [] }

/- WHAT THE LISTED PACKAGE-LEVEL VARIABLES READ AS WHEN THE CALL BEGINS. Each datum BY PROGRAM (the guide's laid-datum.mjs) off the statement by which the dump's own 'gosem.cut.vars' lays the variable. In a bare row this is a premise. The card (YtapjiffililmgaaDoorCards.lean) ties it to the program's text. -/
def laid_loop_example_g00884_impl_attitudeWords {H : Type} : DataW H := .agg [.slice [.lit (.string [114, 97, 109, 112, 97, 110, 116]), .lit (.string [112, 97, 115, 115, 97, 110, 116])] [], .slice [.lit (.string [100, 105, 115, 112, 108, 97, 121, 101, 100]), .lit (.string [114, 105, 115, 105, 110, 103])] [], .slice [.lit (.string [115, 119, 105, 109, 109, 105, 110, 103]), .lit (.string [117, 112, 114, 105, 103, 104, 116])] [], .nil, .nil, .nil, .nil, .nil]

/-- 'laws.FnArms': WHATEVER THE INPUT: true; the input reads as it did. -/
def fnArmsSpec : ChangeSpec := { name := "fnArms", vars := ["loop.example/g00884/impl.attitudeWords"], fn := fun _ => fun
  | [d, g1] => { results := [.lit (.bool true)], args := [d], vars := [g1] }
  | _ => none }
def fnArmsRow : OpenClaim := { program := "ytapjiffililmgaadoor", sum := "e0a2f1d8197ed5ed77d79244ec0e467299f7b9a9738e99cac432be373f37f330", func := "loop.example/g00884/laws.FnArms", spec := "fnArms", named := ["loop.example/g00884/impl.attitudeWords"], apart := false, laid := [("loop.example/g00884/impl.attitudeWords", laid_loop_example_g00884_impl_attitudeWords)] }
def FnArmsSaid : Prop := fnArmsRow.holds Tryd.pinned (OpenSpec.ofChange fnArmsSpec)

/-- ITS FALSE NEIGHBOUR: 'it returns false'. Refute it at one input. -/
def fnArmsWrong : ChangeSpec := { name := "fnArms", vars := ["loop.example/g00884/impl.attitudeWords"], fn := fun _ => fun
  | [d, g1] => { results := [.lit (.bool false)], args := [d], vars := [g1] }
  | _ => none }
def FnArmsWrongFalsely : Prop := fnArmsRow.holds Tryd.pinned (OpenSpec.ofChange fnArmsWrong)

/-- 'laws.FnArmsParts': WHATEVER THE INPUT: true; the input reads as it did. -/
def fnArmsPartsSpec : ChangeSpec := { name := "fnArmsParts", vars := ["loop.example/g00884/impl.attitudeWords"], fn := fun _ => fun
  | [d, g1] => { results := [.lit (.bool true)], args := [d], vars := [g1] }
  | _ => none }
def fnArmsPartsRow : OpenClaim := { program := "ytapjiffililmgaadoor", sum := "e0a2f1d8197ed5ed77d79244ec0e467299f7b9a9738e99cac432be373f37f330", func := "loop.example/g00884/laws.FnArmsParts", spec := "fnArmsParts", named := ["loop.example/g00884/impl.attitudeWords"], apart := false, laid := [("loop.example/g00884/impl.attitudeWords", laid_loop_example_g00884_impl_attitudeWords)] }
def FnArmsPartsSaid : Prop := fnArmsPartsRow.holds Tryd.pinned (OpenSpec.ofChange fnArmsPartsSpec)

/-- ITS FALSE NEIGHBOUR: 'it returns false'. Refute it at one input. -/
def fnArmsPartsWrong : ChangeSpec := { name := "fnArmsParts", vars := ["loop.example/g00884/impl.attitudeWords"], fn := fun _ => fun
  | [d, g1] => { results := [.lit (.bool false)], args := [d], vars := [g1] }
  | _ => none }
def FnArmsPartsWrongFalsely : Prop := fnArmsPartsRow.holds Tryd.pinned (OpenSpec.ofChange fnArmsPartsWrong)

/-- 'laws.FnExactIsValidArms': WHATEVER THE INPUT: true; the input reads as it did. -/
def fnExactIsValidArmsSpec : ChangeSpec := { name := "fnExactIsValidArms", vars := ["loop.example/g00884/impl.attitudeWords"], fn := fun _ => fun
  | [d, g1] => { results := [.lit (.bool true)], args := [d], vars := [g1] }
  | _ => none }
def fnExactIsValidArmsRow : OpenClaim := { program := "ytapjiffililmgaadoor", sum := "e0a2f1d8197ed5ed77d79244ec0e467299f7b9a9738e99cac432be373f37f330", func := "loop.example/g00884/laws.FnExactIsValidArms", spec := "fnExactIsValidArms", named := ["loop.example/g00884/impl.attitudeWords"], apart := false, laid := [("loop.example/g00884/impl.attitudeWords", laid_loop_example_g00884_impl_attitudeWords)] }
def FnExactIsValidArmsSaid : Prop := fnExactIsValidArmsRow.holds Tryd.pinned (OpenSpec.ofChange fnExactIsValidArmsSpec)

/-- ITS FALSE NEIGHBOUR: 'it returns false'. Refute it at one input. -/
def fnExactIsValidArmsWrong : ChangeSpec := { name := "fnExactIsValidArms", vars := ["loop.example/g00884/impl.attitudeWords"], fn := fun _ => fun
  | [d, g1] => { results := [.lit (.bool false)], args := [d], vars := [g1] }
  | _ => none }
def FnExactIsValidArmsWrongFalsely : Prop := fnExactIsValidArmsRow.holds Tryd.pinned (OpenSpec.ofChange fnExactIsValidArmsWrong)

/-- 'laws.FnExactLayerCount': WHATEVER THE INPUT: true; the input reads as it did. -/
def fnExactLayerCountSpec : ChangeSpec := { name := "fnExactLayerCount", vars := ["loop.example/g00884/impl.attitudeWords"], fn := fun _ => fun
  | [d, g1] => { results := [.lit (.bool true)], args := [d], vars := [g1] }
  | _ => none }
def fnExactLayerCountRow : OpenClaim := { program := "ytapjiffililmgaadoor", sum := "e0a2f1d8197ed5ed77d79244ec0e467299f7b9a9738e99cac432be373f37f330", func := "loop.example/g00884/laws.FnExactLayerCount", spec := "fnExactLayerCount", named := ["loop.example/g00884/impl.attitudeWords"], apart := false, laid := [("loop.example/g00884/impl.attitudeWords", laid_loop_example_g00884_impl_attitudeWords)] }
def FnExactLayerCountSaid : Prop := fnExactLayerCountRow.holds Tryd.pinned (OpenSpec.ofChange fnExactLayerCountSpec)

/-- ITS FALSE NEIGHBOUR: 'it returns false'. Refute it at one input. -/
def fnExactLayerCountWrong : ChangeSpec := { name := "fnExactLayerCount", vars := ["loop.example/g00884/impl.attitudeWords"], fn := fun _ => fun
  | [d, g1] => { results := [.lit (.bool false)], args := [d], vars := [g1] }
  | _ => none }
def FnExactLayerCountWrongFalsely : Prop := fnExactLayerCountRow.holds Tryd.pinned (OpenSpec.ofChange fnExactLayerCountWrong)

/-- 'laws.FnExactArmsTinctures': WHATEVER THE INPUT: true; the input reads as it did. -/
def fnExactArmsTincturesSpec : ChangeSpec := { name := "fnExactArmsTinctures", vars := ["loop.example/g00884/impl.attitudeWords"], fn := fun _ => fun
  | [d, g1] => { results := [.lit (.bool true)], args := [d], vars := [g1] }
  | _ => none }
def fnExactArmsTincturesRow : OpenClaim := { program := "ytapjiffililmgaadoor", sum := "e0a2f1d8197ed5ed77d79244ec0e467299f7b9a9738e99cac432be373f37f330", func := "loop.example/g00884/laws.FnExactArmsTinctures", spec := "fnExactArmsTinctures", named := ["loop.example/g00884/impl.attitudeWords"], apart := false, laid := [("loop.example/g00884/impl.attitudeWords", laid_loop_example_g00884_impl_attitudeWords)] }
def FnExactArmsTincturesSaid : Prop := fnExactArmsTincturesRow.holds Tryd.pinned (OpenSpec.ofChange fnExactArmsTincturesSpec)

/-- ITS FALSE NEIGHBOUR: 'it returns false'. Refute it at one input. -/
def fnExactArmsTincturesWrong : ChangeSpec := { name := "fnExactArmsTinctures", vars := ["loop.example/g00884/impl.attitudeWords"], fn := fun _ => fun
  | [d, g1] => { results := [.lit (.bool false)], args := [d], vars := [g1] }
  | _ => none }
def FnExactArmsTincturesWrongFalsely : Prop := fnExactArmsTincturesRow.holds Tryd.pinned (OpenSpec.ofChange fnExactArmsTincturesWrong)

/-- 'laws.FnExactChargeTotal': WHATEVER THE INPUT: true; the input reads as it did. -/
def fnExactChargeTotalSpec : ChangeSpec := { name := "fnExactChargeTotal", vars := ["loop.example/g00884/impl.attitudeWords"], fn := fun _ => fun
  | [d, g1] => { results := [.lit (.bool true)], args := [d], vars := [g1] }
  | _ => none }
def fnExactChargeTotalRow : OpenClaim := { program := "ytapjiffililmgaadoor", sum := "e0a2f1d8197ed5ed77d79244ec0e467299f7b9a9738e99cac432be373f37f330", func := "loop.example/g00884/laws.FnExactChargeTotal", spec := "fnExactChargeTotal", named := ["loop.example/g00884/impl.attitudeWords"], apart := false, laid := [("loop.example/g00884/impl.attitudeWords", laid_loop_example_g00884_impl_attitudeWords)] }
def FnExactChargeTotalSaid : Prop := fnExactChargeTotalRow.holds Tryd.pinned (OpenSpec.ofChange fnExactChargeTotalSpec)

/-- ITS FALSE NEIGHBOUR: 'it returns false'. Refute it at one input. -/
def fnExactChargeTotalWrong : ChangeSpec := { name := "fnExactChargeTotal", vars := ["loop.example/g00884/impl.attitudeWords"], fn := fun _ => fun
  | [d, g1] => { results := [.lit (.bool false)], args := [d], vars := [g1] }
  | _ => none }
def FnExactChargeTotalWrongFalsely : Prop := fnExactChargeTotalRow.holds Tryd.pinned (OpenSpec.ofChange fnExactChargeTotalWrong)

/-- 'laws.FnExactWithField': WHATEVER THE INPUT: true; the input reads as it did. -/
def fnExactWithFieldSpec : ChangeSpec := { name := "fnExactWithField", vars := ["loop.example/g00884/impl.attitudeWords"], fn := fun _ => fun
  | [d1, d2, g1] => { results := [.lit (.bool true)], args := [d1, d2], vars := [g1] }
  | _ => none }
def fnExactWithFieldRow : OpenClaim := { program := "ytapjiffililmgaadoor", sum := "e0a2f1d8197ed5ed77d79244ec0e467299f7b9a9738e99cac432be373f37f330", func := "loop.example/g00884/laws.FnExactWithField", spec := "fnExactWithField", named := ["loop.example/g00884/impl.attitudeWords"], apart := false, laid := [("loop.example/g00884/impl.attitudeWords", laid_loop_example_g00884_impl_attitudeWords)] }
def FnExactWithFieldSaid : Prop := fnExactWithFieldRow.holds Tryd.pinned (OpenSpec.ofChange fnExactWithFieldSpec)

/-- ITS FALSE NEIGHBOUR: 'it returns false'. Refute it at one input. -/
def fnExactWithFieldWrong : ChangeSpec := { name := "fnExactWithField", vars := ["loop.example/g00884/impl.attitudeWords"], fn := fun _ => fun
  | [d1, d2, g1] => { results := [.lit (.bool false)], args := [d1, d2], vars := [g1] }
  | _ => none }
def FnExactWithFieldWrongFalsely : Prop := fnExactWithFieldRow.holds Tryd.pinned (OpenSpec.ofChange fnExactWithFieldWrong)

/-- 'laws.FnExactWithOrdinary': WHATEVER THE INPUT: true; the input reads as it did. -/
def fnExactWithOrdinarySpec : ChangeSpec := { name := "fnExactWithOrdinary", vars := ["loop.example/g00884/impl.attitudeWords"], fn := fun _ => fun
  | [d1, d2, d3, d4, g1] => { results := [.lit (.bool true)], args := [d1, d2, d3, d4], vars := [g1] }
  | _ => none }
def fnExactWithOrdinaryRow : OpenClaim := { program := "ytapjiffililmgaadoor", sum := "e0a2f1d8197ed5ed77d79244ec0e467299f7b9a9738e99cac432be373f37f330", func := "loop.example/g00884/laws.FnExactWithOrdinary", spec := "fnExactWithOrdinary", named := ["loop.example/g00884/impl.attitudeWords"], apart := false, laid := [("loop.example/g00884/impl.attitudeWords", laid_loop_example_g00884_impl_attitudeWords)] }
def FnExactWithOrdinarySaid : Prop := fnExactWithOrdinaryRow.holds Tryd.pinned (OpenSpec.ofChange fnExactWithOrdinarySpec)

/-- ITS FALSE NEIGHBOUR: 'it returns false'. Refute it at one input. -/
def fnExactWithOrdinaryWrong : ChangeSpec := { name := "fnExactWithOrdinary", vars := ["loop.example/g00884/impl.attitudeWords"], fn := fun _ => fun
  | [d1, d2, d3, d4, g1] => { results := [.lit (.bool false)], args := [d1, d2, d3, d4], vars := [g1] }
  | _ => none }
def FnExactWithOrdinaryWrongFalsely : Prop := fnExactWithOrdinaryRow.holds Tryd.pinned (OpenSpec.ofChange fnExactWithOrdinaryWrong)

/-- 'laws.FnExactWithGroups': WHATEVER THE INPUT: true; the input reads as it did. -/
def fnExactWithGroupsSpec : ChangeSpec := { name := "fnExactWithGroups", vars := ["loop.example/g00884/impl.attitudeWords"], fn := fun _ => fun
  | [d1, d2, d3, g1] => { results := [.lit (.bool true)], args := [d1, d2, d3], vars := [g1] }
  | _ => none }
def fnExactWithGroupsRow : OpenClaim := { program := "ytapjiffililmgaadoor", sum := "e0a2f1d8197ed5ed77d79244ec0e467299f7b9a9738e99cac432be373f37f330", func := "loop.example/g00884/laws.FnExactWithGroups", spec := "fnExactWithGroups", named := ["loop.example/g00884/impl.attitudeWords"], apart := false, laid := [("loop.example/g00884/impl.attitudeWords", laid_loop_example_g00884_impl_attitudeWords)] }
def FnExactWithGroupsSaid : Prop := fnExactWithGroupsRow.holds Tryd.pinned (OpenSpec.ofChange fnExactWithGroupsSpec)

/-- ITS FALSE NEIGHBOUR: 'it returns false'. Refute it at one input. -/
def fnExactWithGroupsWrong : ChangeSpec := { name := "fnExactWithGroups", vars := ["loop.example/g00884/impl.attitudeWords"], fn := fun _ => fun
  | [d1, d2, d3, g1] => { results := [.lit (.bool false)], args := [d1, d2, d3], vars := [g1] }
  | _ => none }
def FnExactWithGroupsWrongFalsely : Prop := fnExactWithGroupsRow.holds Tryd.pinned (OpenSpec.ofChange fnExactWithGroupsWrong)

/-- 'laws.FnExactReplaceTincture': WHATEVER THE INPUT: true; the input reads as it did. -/
def fnExactReplaceTinctureSpec : ChangeSpec := { name := "fnExactReplaceTincture", vars := ["loop.example/g00884/impl.attitudeWords"], fn := fun _ => fun
  | [d1, d2, d3, g1] => { results := [.lit (.bool true)], args := [d1, d2, d3], vars := [g1] }
  | _ => none }
def fnExactReplaceTinctureRow : OpenClaim := { program := "ytapjiffililmgaadoor", sum := "e0a2f1d8197ed5ed77d79244ec0e467299f7b9a9738e99cac432be373f37f330", func := "loop.example/g00884/laws.FnExactReplaceTincture", spec := "fnExactReplaceTincture", named := ["loop.example/g00884/impl.attitudeWords"], apart := false, laid := [("loop.example/g00884/impl.attitudeWords", laid_loop_example_g00884_impl_attitudeWords)] }
def FnExactReplaceTinctureSaid : Prop := fnExactReplaceTinctureRow.holds Tryd.pinned (OpenSpec.ofChange fnExactReplaceTinctureSpec)

/-- ITS FALSE NEIGHBOUR: 'it returns false'. Refute it at one input. -/
def fnExactReplaceTinctureWrong : ChangeSpec := { name := "fnExactReplaceTincture", vars := ["loop.example/g00884/impl.attitudeWords"], fn := fun _ => fun
  | [d1, d2, d3, g1] => { results := [.lit (.bool false)], args := [d1, d2, d3], vars := [g1] }
  | _ => none }
def FnExactReplaceTinctureWrongFalsely : Prop := fnExactReplaceTinctureRow.holds Tryd.pinned (OpenSpec.ofChange fnExactReplaceTinctureWrong)

/-- 'laws.FnExactSimplest': WHATEVER THE INPUT: true; the input reads as it did. -/
def fnExactSimplestSpec : ChangeSpec := { name := "fnExactSimplest", vars := ["loop.example/g00884/impl.attitudeWords"], fn := fun _ => fun
  | [d, g1] => { results := [.lit (.bool true)], args := [d], vars := [g1] }
  | _ => none }
def fnExactSimplestRow : OpenClaim := { program := "ytapjiffililmgaadoor", sum := "e0a2f1d8197ed5ed77d79244ec0e467299f7b9a9738e99cac432be373f37f330", func := "loop.example/g00884/laws.FnExactSimplest", spec := "fnExactSimplest", named := ["loop.example/g00884/impl.attitudeWords"], apart := false, laid := [("loop.example/g00884/impl.attitudeWords", laid_loop_example_g00884_impl_attitudeWords)] }
def FnExactSimplestSaid : Prop := fnExactSimplestRow.holds Tryd.pinned (OpenSpec.ofChange fnExactSimplestSpec)

/-- ITS FALSE NEIGHBOUR: 'it returns false'. Refute it at one input. -/
def fnExactSimplestWrong : ChangeSpec := { name := "fnExactSimplest", vars := ["loop.example/g00884/impl.attitudeWords"], fn := fun _ => fun
  | [d, g1] => { results := [.lit (.bool false)], args := [d], vars := [g1] }
  | _ => none }
def FnExactSimplestWrongFalsely : Prop := fnExactSimplestRow.holds Tryd.pinned (OpenSpec.ofChange fnExactSimplestWrong)

/-- 'laws.FnExactSameShape': WHATEVER THE INPUT: true; the input reads as it did. -/
def fnExactSameShapeSpec : ChangeSpec := { name := "fnExactSameShape", vars := ["loop.example/g00884/impl.attitudeWords"], fn := fun _ => fun
  | [d1, d2, g1] => { results := [.lit (.bool true)], args := [d1, d2], vars := [g1] }
  | _ => none }
def fnExactSameShapeRow : OpenClaim := { program := "ytapjiffililmgaadoor", sum := "e0a2f1d8197ed5ed77d79244ec0e467299f7b9a9738e99cac432be373f37f330", func := "loop.example/g00884/laws.FnExactSameShape", spec := "fnExactSameShape", named := ["loop.example/g00884/impl.attitudeWords"], apart := false, laid := [("loop.example/g00884/impl.attitudeWords", laid_loop_example_g00884_impl_attitudeWords)] }
def FnExactSameShapeSaid : Prop := fnExactSameShapeRow.holds Tryd.pinned (OpenSpec.ofChange fnExactSameShapeSpec)

/-- ITS FALSE NEIGHBOUR: 'it returns false'. Refute it at one input. -/
def fnExactSameShapeWrong : ChangeSpec := { name := "fnExactSameShape", vars := ["loop.example/g00884/impl.attitudeWords"], fn := fun _ => fun
  | [d1, d2, g1] => { results := [.lit (.bool false)], args := [d1, d2], vars := [g1] }
  | _ => none }
def FnExactSameShapeWrongFalsely : Prop := fnExactSameShapeRow.holds Tryd.pinned (OpenSpec.ofChange fnExactSameShapeWrong)

/- THE SECOND FORM. 'bulk': how many values and letters a reading holds, each counted each time it is reached (what is shared counts as often as it is met; a slice's spare places count too). A statement '..UptoSaid' is the law's where the arguments, and the package variables that the reading takes, are together of bulk at most 1048576: NARROWER than '..Said'. Prove '..Said' where nothing that the law and all that it calls make is longer than what came in: it says more and counts as full. Else prove '..UptoSaid'. A law counts once. -/
mutual
def uptoBulk {H : Type} : DataW H → Nat
  | .lit (.string bytes) => bytes.length + 1
  | .lit _ => 1
  | .nil => 1
  | .ptr d => uptoBulk d + 1
  | .slice elems spare => uptoBulkAll elems + uptoBulkAll spare + 1
  | .agg parts => uptoBulkAll parts + 1
  | .iface _ d => uptoBulk d + 1
  | .map entries => uptoBulkEntries entries + 1
  | .held _ => 1
def uptoBulkAll {H : Type} : List (DataW H) → Nat
  | [] => 0
  | d :: r => uptoBulk d + uptoBulkAll r
def uptoBulkEntries {H : Type} : List (Lit × DataW H) → Nat
  | [] => 0
  | x :: r => uptoBulkEntry x + uptoBulkEntries r
def uptoBulkEntry {H : Type} : Lit × DataW H → Nat
  | (.string bytes, d) => bytes.length + uptoBulk d + 1
  | (_, d) => uptoBulk d + 1
 end
def uptoSmall : (H : Type) → List (DataW H) → Bool := fun _ ds => decide (uptoBulkAll ds ≤ 1048576)
def OpenSpec.upto (s : _root_.Go.ChangeSpec) : _root_.Go.OpenSpec := { _root_.Go.OpenSpec.ofChange s with cond := some uptoSmall }

/-- 'laws.FnArms', WHERE WHAT IT READS IS OF BULK AT MOST 1048576: true; the input reads as it did. -/
def fnArmsUptoRow : OpenClaim := { program := "ytapjiffililmgaadoor", sum := "e0a2f1d8197ed5ed77d79244ec0e467299f7b9a9738e99cac432be373f37f330", func := "loop.example/g00884/laws.FnArms", spec := "fnArms", named := ["loop.example/g00884/impl.attitudeWords"], apart := false, laid := [("loop.example/g00884/impl.attitudeWords", laid_loop_example_g00884_impl_attitudeWords)], narrowed := true }
def FnArmsUptoSaid : Prop := fnArmsUptoRow.holds Tryd.pinned (OpenSpec.upto fnArmsSpec)

/-- 'laws.FnArmsParts', WHERE WHAT IT READS IS OF BULK AT MOST 1048576: true; the input reads as it did. -/
def fnArmsPartsUptoRow : OpenClaim := { program := "ytapjiffililmgaadoor", sum := "e0a2f1d8197ed5ed77d79244ec0e467299f7b9a9738e99cac432be373f37f330", func := "loop.example/g00884/laws.FnArmsParts", spec := "fnArmsParts", named := ["loop.example/g00884/impl.attitudeWords"], apart := false, laid := [("loop.example/g00884/impl.attitudeWords", laid_loop_example_g00884_impl_attitudeWords)], narrowed := true }
def FnArmsPartsUptoSaid : Prop := fnArmsPartsUptoRow.holds Tryd.pinned (OpenSpec.upto fnArmsPartsSpec)

/-- 'laws.FnExactIsValidArms', WHERE WHAT IT READS IS OF BULK AT MOST 1048576: true; the input reads as it did. -/
def fnExactIsValidArmsUptoRow : OpenClaim := { program := "ytapjiffililmgaadoor", sum := "e0a2f1d8197ed5ed77d79244ec0e467299f7b9a9738e99cac432be373f37f330", func := "loop.example/g00884/laws.FnExactIsValidArms", spec := "fnExactIsValidArms", named := ["loop.example/g00884/impl.attitudeWords"], apart := false, laid := [("loop.example/g00884/impl.attitudeWords", laid_loop_example_g00884_impl_attitudeWords)], narrowed := true }
def FnExactIsValidArmsUptoSaid : Prop := fnExactIsValidArmsUptoRow.holds Tryd.pinned (OpenSpec.upto fnExactIsValidArmsSpec)

/-- 'laws.FnExactLayerCount', WHERE WHAT IT READS IS OF BULK AT MOST 1048576: true; the input reads as it did. -/
def fnExactLayerCountUptoRow : OpenClaim := { program := "ytapjiffililmgaadoor", sum := "e0a2f1d8197ed5ed77d79244ec0e467299f7b9a9738e99cac432be373f37f330", func := "loop.example/g00884/laws.FnExactLayerCount", spec := "fnExactLayerCount", named := ["loop.example/g00884/impl.attitudeWords"], apart := false, laid := [("loop.example/g00884/impl.attitudeWords", laid_loop_example_g00884_impl_attitudeWords)], narrowed := true }
def FnExactLayerCountUptoSaid : Prop := fnExactLayerCountUptoRow.holds Tryd.pinned (OpenSpec.upto fnExactLayerCountSpec)

/-- 'laws.FnExactArmsTinctures', WHERE WHAT IT READS IS OF BULK AT MOST 1048576: true; the input reads as it did. -/
def fnExactArmsTincturesUptoRow : OpenClaim := { program := "ytapjiffililmgaadoor", sum := "e0a2f1d8197ed5ed77d79244ec0e467299f7b9a9738e99cac432be373f37f330", func := "loop.example/g00884/laws.FnExactArmsTinctures", spec := "fnExactArmsTinctures", named := ["loop.example/g00884/impl.attitudeWords"], apart := false, laid := [("loop.example/g00884/impl.attitudeWords", laid_loop_example_g00884_impl_attitudeWords)], narrowed := true }
def FnExactArmsTincturesUptoSaid : Prop := fnExactArmsTincturesUptoRow.holds Tryd.pinned (OpenSpec.upto fnExactArmsTincturesSpec)

/-- 'laws.FnExactChargeTotal', WHERE WHAT IT READS IS OF BULK AT MOST 1048576: true; the input reads as it did. -/
def fnExactChargeTotalUptoRow : OpenClaim := { program := "ytapjiffililmgaadoor", sum := "e0a2f1d8197ed5ed77d79244ec0e467299f7b9a9738e99cac432be373f37f330", func := "loop.example/g00884/laws.FnExactChargeTotal", spec := "fnExactChargeTotal", named := ["loop.example/g00884/impl.attitudeWords"], apart := false, laid := [("loop.example/g00884/impl.attitudeWords", laid_loop_example_g00884_impl_attitudeWords)], narrowed := true }
def FnExactChargeTotalUptoSaid : Prop := fnExactChargeTotalUptoRow.holds Tryd.pinned (OpenSpec.upto fnExactChargeTotalSpec)

/-- 'laws.FnExactWithField', WHERE WHAT IT READS IS OF BULK AT MOST 1048576: true; the input reads as it did. -/
def fnExactWithFieldUptoRow : OpenClaim := { program := "ytapjiffililmgaadoor", sum := "e0a2f1d8197ed5ed77d79244ec0e467299f7b9a9738e99cac432be373f37f330", func := "loop.example/g00884/laws.FnExactWithField", spec := "fnExactWithField", named := ["loop.example/g00884/impl.attitudeWords"], apart := false, laid := [("loop.example/g00884/impl.attitudeWords", laid_loop_example_g00884_impl_attitudeWords)], narrowed := true }
def FnExactWithFieldUptoSaid : Prop := fnExactWithFieldUptoRow.holds Tryd.pinned (OpenSpec.upto fnExactWithFieldSpec)

/-- 'laws.FnExactWithOrdinary', WHERE WHAT IT READS IS OF BULK AT MOST 1048576: true; the input reads as it did. -/
def fnExactWithOrdinaryUptoRow : OpenClaim := { program := "ytapjiffililmgaadoor", sum := "e0a2f1d8197ed5ed77d79244ec0e467299f7b9a9738e99cac432be373f37f330", func := "loop.example/g00884/laws.FnExactWithOrdinary", spec := "fnExactWithOrdinary", named := ["loop.example/g00884/impl.attitudeWords"], apart := false, laid := [("loop.example/g00884/impl.attitudeWords", laid_loop_example_g00884_impl_attitudeWords)], narrowed := true }
def FnExactWithOrdinaryUptoSaid : Prop := fnExactWithOrdinaryUptoRow.holds Tryd.pinned (OpenSpec.upto fnExactWithOrdinarySpec)

/-- 'laws.FnExactWithGroups', WHERE WHAT IT READS IS OF BULK AT MOST 1048576: true; the input reads as it did. -/
def fnExactWithGroupsUptoRow : OpenClaim := { program := "ytapjiffililmgaadoor", sum := "e0a2f1d8197ed5ed77d79244ec0e467299f7b9a9738e99cac432be373f37f330", func := "loop.example/g00884/laws.FnExactWithGroups", spec := "fnExactWithGroups", named := ["loop.example/g00884/impl.attitudeWords"], apart := false, laid := [("loop.example/g00884/impl.attitudeWords", laid_loop_example_g00884_impl_attitudeWords)], narrowed := true }
def FnExactWithGroupsUptoSaid : Prop := fnExactWithGroupsUptoRow.holds Tryd.pinned (OpenSpec.upto fnExactWithGroupsSpec)

/-- 'laws.FnExactReplaceTincture', WHERE WHAT IT READS IS OF BULK AT MOST 1048576: true; the input reads as it did. -/
def fnExactReplaceTinctureUptoRow : OpenClaim := { program := "ytapjiffililmgaadoor", sum := "e0a2f1d8197ed5ed77d79244ec0e467299f7b9a9738e99cac432be373f37f330", func := "loop.example/g00884/laws.FnExactReplaceTincture", spec := "fnExactReplaceTincture", named := ["loop.example/g00884/impl.attitudeWords"], apart := false, laid := [("loop.example/g00884/impl.attitudeWords", laid_loop_example_g00884_impl_attitudeWords)], narrowed := true }
def FnExactReplaceTinctureUptoSaid : Prop := fnExactReplaceTinctureUptoRow.holds Tryd.pinned (OpenSpec.upto fnExactReplaceTinctureSpec)

/-- 'laws.FnExactSimplest', WHERE WHAT IT READS IS OF BULK AT MOST 1048576: true; the input reads as it did. -/
def fnExactSimplestUptoRow : OpenClaim := { program := "ytapjiffililmgaadoor", sum := "e0a2f1d8197ed5ed77d79244ec0e467299f7b9a9738e99cac432be373f37f330", func := "loop.example/g00884/laws.FnExactSimplest", spec := "fnExactSimplest", named := ["loop.example/g00884/impl.attitudeWords"], apart := false, laid := [("loop.example/g00884/impl.attitudeWords", laid_loop_example_g00884_impl_attitudeWords)], narrowed := true }
def FnExactSimplestUptoSaid : Prop := fnExactSimplestUptoRow.holds Tryd.pinned (OpenSpec.upto fnExactSimplestSpec)

/-- 'laws.FnExactSameShape', WHERE WHAT IT READS IS OF BULK AT MOST 1048576: true; the input reads as it did. -/
def fnExactSameShapeUptoRow : OpenClaim := { program := "ytapjiffililmgaadoor", sum := "e0a2f1d8197ed5ed77d79244ec0e467299f7b9a9738e99cac432be373f37f330", func := "loop.example/g00884/laws.FnExactSameShape", spec := "fnExactSameShape", named := ["loop.example/g00884/impl.attitudeWords"], apart := false, laid := [("loop.example/g00884/impl.attitudeWords", laid_loop_example_g00884_impl_attitudeWords)], narrowed := true }
def FnExactSameShapeUptoSaid : Prop := fnExactSameShapeUptoRow.holds Tryd.pinned (OpenSpec.upto fnExactSameShapeSpec)

end Rows
end Go.Proofs.YtapjiffililmgaaDoor
