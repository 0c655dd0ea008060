/-
  NARROWER THAN 'FOR EVERY INPUT', by the rows' own cells (each row's printed sentence says how): FnGroups: laid · FnGroupDifferences: laid · FnExactIsValidGroup: laid · FnExactGroupText: laid · FnExactParseGroup: laid · FnExactKindWord: laid · FnExactAttitudesOf: laid · FnExactGroupDifferences: laid · FnExactJoinGroups: laid · FnExactRowsOf: laid · FnExactIsBeast: laid.
  DERIVED. THE GIVEN ROWS OF THIS SEAT. 11 by the template 'for every input the law returns true; each argument reads behind the call as it read before'; 0 by the template 'total and deterministic' (their statements: YtklfkdmmclomoaaDoorTotals.lean).
  GIVEN WITH THE SEED: the statements are not yours to turn. If you find one false, say at which input.
  Laid BY PROGRAM, IN A SANDBOX (cutbox-rows.mjs): the forced cells as the released guide's own fill.sh prints them over the translation 68c962ceac3a6af6… (all of the seat's roots in one cut). By AI agents, Wed Nov 11 2026. No macro, syntax, notation, axiom, sorry.
-/
import Derived.Test.YtklfkdmmclomoaaDoorChecked
import GoSem.Claim
import GoSem.ClaimJoined
import GoSem.ClaimMapViews
import Derived.JoinedTies
import Derived.KernelRfl
namespace Go.Proofs.YtklfkdmmclomoaaDoor
/- THE CELL 'sum', in the pinned program and in every row, IS THE sha256 OF THE DUMP (.gsa) THAT YtklfkdmmclomoaaDoorProg.lean LOADS. Nothing in Lean hashes anything: it is a label: what it is worth is what the hold of that sum in a sandbox is worth. -/
noncomputable def Tryd.pinned : Pinned := { name := "ytklfkdmmclomoaadoor", sum := "68c962ceac3a6af6b44bd8090ae8759cae3a20d9151b9504553a25aad258552c", checked := Tryd.checked }
namespace Rows
def none {H : Type} : Left H := { results := [], args := [] }

/- WHAT THE LISTED PACKAGE-LEVEL VARIABLES READ AS WHEN THE CALL BEGINS. Each datum BY PROGRAM (the guide's laid-datum.mjs) off the statement by which the dump's own 'gosem.cut.vars' lays the variable. In a bare row this is a premise. The card (YtklfkdmmclomoaaDoorCards.lean) ties it to the program's text. -/
def laid_loop_example_g00884_impl_tinctureWords {H : Type} : DataW H := .agg [.lit (.string [103, 111, 108, 100]), .lit (.string [115, 105, 108, 118, 101, 114]), .lit (.string [114, 101, 100]), .lit (.string [98, 108, 117, 101]), .lit (.string [98, 108, 97, 99, 107]), .lit (.string [103, 114, 101, 101, 110]), .lit (.string [112, 117, 114, 112, 108, 101]), .lit (.string [101, 114, 109, 105, 110, 101]), .lit (.string [118, 97, 105, 114])]
def laid_loop_example_g00884_impl_countWords {H : Type} : DataW H := .agg [.lit (.string [97]), .lit (.string [116, 119, 111]), .lit (.string [116, 104, 114, 101, 101]), .lit (.string [102, 111, 117, 114]), .lit (.string [102, 105, 118, 101]), .lit (.string [115, 105, 120])]
def laid_loop_example_g00884_impl_kindWords {H : Type} : DataW H := .agg [.lit (.string [108, 105, 111, 110]), .lit (.string [101, 97, 103, 108, 101]), .lit (.string [102, 105, 115, 104]), .lit (.string [114, 111, 115, 101]), .lit (.string [115, 116, 97, 114]), .lit (.string [116, 111, 119, 101, 114]), .lit (.string [107, 101, 121]), .lit (.string [115, 119, 111, 114, 100])]
def laid_loop_example_g00884_impl_attitudeWords {H : Type} : DataW H := .agg [.slice [.lit (.string [114, 97, 109, 112, 97, 110, 116]), .lit (.string [112, 97, 115, 115, 97, 110, 116])] [], .slice [.lit (.string [100, 105, 115, 112, 108, 97, 121, 101, 100]), .lit (.string [114, 105, 115, 105, 110, 103])] [], .slice [.lit (.string [115, 119, 105, 109, 109, 105, 110, 103]), .lit (.string [117, 112, 114, 105, 103, 104, 116])] [], .nil, .nil, .nil, .nil, .nil]
def laid_loop_example_g00884_impl_rowsOfCharges {H : Type} : DataW H := .agg [.slice [.lit (.int .i64 1)] [], .slice [.lit (.int .i64 1), .lit (.int .i64 1)] [], .slice [.lit (.int .i64 2), .lit (.int .i64 1)] [], .slice [.lit (.int .i64 2), .lit (.int .i64 2)] [], .slice [.lit (.int .i64 2), .lit (.int .i64 1), .lit (.int .i64 2)] [], .slice [.lit (.int .i64 3), .lit (.int .i64 2), .lit (.int .i64 1)] []]

/-- 'laws.FnGroups': WHATEVER THE INPUT: true; the input reads as it did. -/
def fnGroupsSpec : ChangeSpec := { name := "fnGroups", vars := ["loop.example/g00884/impl.attitudeWords", "loop.example/g00884/impl.tinctureWords", "loop.example/g00884/impl.kindWords", "loop.example/g00884/impl.countWords", "loop.example/g00884/impl.rowsOfCharges"], fn := fun _ => fun
  | [d, g1, g2, g3, g4, g5] => { results := [.lit (.bool true)], args := [d], vars := [g1, g2, g3, g4, g5] }
  | _ => none }
def fnGroupsRow : OpenClaim := { program := "ytklfkdmmclomoaadoor", sum := "68c962ceac3a6af6b44bd8090ae8759cae3a20d9151b9504553a25aad258552c", func := "loop.example/g00884/laws.FnGroups", spec := "fnGroups", inPlace := ["internal/abi.NoEscape", "internal/bytealg.MakeNoZero"], unfollowed := true, recurses := true, named := ["loop.example/g00884/impl.attitudeWords", "loop.example/g00884/impl.tinctureWords", "loop.example/g00884/impl.kindWords", "loop.example/g00884/impl.countWords", "loop.example/g00884/impl.rowsOfCharges"], apart := false, laid := [("loop.example/g00884/impl.tinctureWords", laid_loop_example_g00884_impl_tinctureWords), ("loop.example/g00884/impl.countWords", laid_loop_example_g00884_impl_countWords), ("loop.example/g00884/impl.kindWords", laid_loop_example_g00884_impl_kindWords), ("loop.example/g00884/impl.attitudeWords", laid_loop_example_g00884_impl_attitudeWords), ("loop.example/g00884/impl.rowsOfCharges", laid_loop_example_g00884_impl_rowsOfCharges)] }
def FnGroupsSaid : Prop := fnGroupsRow.holds Tryd.pinned (OpenSpec.ofChange fnGroupsSpec)

/-- ITS FALSE NEIGHBOUR: 'it returns false'. Refute it at one input. -/
def fnGroupsWrong : ChangeSpec := { name := "fnGroups", vars := ["loop.example/g00884/impl.attitudeWords", "loop.example/g00884/impl.tinctureWords", "loop.example/g00884/impl.kindWords", "loop.example/g00884/impl.countWords", "loop.example/g00884/impl.rowsOfCharges"], fn := fun _ => fun
  | [d, g1, g2, g3, g4, g5] => { results := [.lit (.bool false)], args := [d], vars := [g1, g2, g3, g4, g5] }
  | _ => none }
def FnGroupsWrongFalsely : Prop := fnGroupsRow.holds Tryd.pinned (OpenSpec.ofChange fnGroupsWrong)

/-- 'laws.FnGroupDifferences': WHATEVER THE INPUT: true; the input reads as it did. -/
def fnGroupDifferencesSpec : ChangeSpec := { name := "fnGroupDifferences", vars := ["loop.example/g00884/impl.attitudeWords"], fn := fun _ => fun
  | [d, g1] => { results := [.lit (.bool true)], args := [d], vars := [g1] }
  | _ => none }
def fnGroupDifferencesRow : OpenClaim := { program := "ytklfkdmmclomoaadoor", sum := "68c962ceac3a6af6b44bd8090ae8759cae3a20d9151b9504553a25aad258552c", func := "loop.example/g00884/laws.FnGroupDifferences", spec := "fnGroupDifferences", named := ["loop.example/g00884/impl.attitudeWords"], apart := false, laid := [("loop.example/g00884/impl.attitudeWords", laid_loop_example_g00884_impl_attitudeWords)] }
def FnGroupDifferencesSaid : Prop := fnGroupDifferencesRow.holds Tryd.pinned (OpenSpec.ofChange fnGroupDifferencesSpec)

/-- ITS FALSE NEIGHBOUR: 'it returns false'. Refute it at one input. -/
def fnGroupDifferencesWrong : ChangeSpec := { name := "fnGroupDifferences", vars := ["loop.example/g00884/impl.attitudeWords"], fn := fun _ => fun
  | [d, g1] => { results := [.lit (.bool false)], args := [d], vars := [g1] }
  | _ => none }
def FnGroupDifferencesWrongFalsely : Prop := fnGroupDifferencesRow.holds Tryd.pinned (OpenSpec.ofChange fnGroupDifferencesWrong)

/-- 'laws.FnExactIsValidGroup': WHATEVER THE INPUT: true; the input reads as it did. -/
def fnExactIsValidGroupSpec : ChangeSpec := { name := "fnExactIsValidGroup", vars := ["loop.example/g00884/impl.attitudeWords"], fn := fun _ => fun
  | [d, g1] => { results := [.lit (.bool true)], args := [d], vars := [g1] }
  | _ => none }
def fnExactIsValidGroupRow : OpenClaim := { program := "ytklfkdmmclomoaadoor", sum := "68c962ceac3a6af6b44bd8090ae8759cae3a20d9151b9504553a25aad258552c", func := "loop.example/g00884/laws.FnExactIsValidGroup", spec := "fnExactIsValidGroup", named := ["loop.example/g00884/impl.attitudeWords"], apart := false, laid := [("loop.example/g00884/impl.attitudeWords", laid_loop_example_g00884_impl_attitudeWords)] }
def FnExactIsValidGroupSaid : Prop := fnExactIsValidGroupRow.holds Tryd.pinned (OpenSpec.ofChange fnExactIsValidGroupSpec)

/-- ITS FALSE NEIGHBOUR: 'it returns false'. Refute it at one input. -/
def fnExactIsValidGroupWrong : ChangeSpec := { name := "fnExactIsValidGroup", vars := ["loop.example/g00884/impl.attitudeWords"], fn := fun _ => fun
  | [d, g1] => { results := [.lit (.bool false)], args := [d], vars := [g1] }
  | _ => none }
def FnExactIsValidGroupWrongFalsely : Prop := fnExactIsValidGroupRow.holds Tryd.pinned (OpenSpec.ofChange fnExactIsValidGroupWrong)

/-- 'laws.FnExactGroupText': WHATEVER THE INPUT: true; the input reads as it did. -/
def fnExactGroupTextSpec : ChangeSpec := { name := "fnExactGroupText", vars := ["loop.example/g00884/impl.attitudeWords", "loop.example/g00884/impl.tinctureWords", "loop.example/g00884/impl.kindWords", "loop.example/g00884/impl.countWords"], fn := fun _ => fun
  | [d, g1, g2, g3, g4] => { results := [.lit (.bool true)], args := [d], vars := [g1, g2, g3, g4] }
  | _ => none }
def fnExactGroupTextRow : OpenClaim := { program := "ytklfkdmmclomoaadoor", sum := "68c962ceac3a6af6b44bd8090ae8759cae3a20d9151b9504553a25aad258552c", func := "loop.example/g00884/laws.FnExactGroupText", spec := "fnExactGroupText", inPlace := ["internal/abi.NoEscape", "internal/bytealg.MakeNoZero"], named := ["loop.example/g00884/impl.attitudeWords", "loop.example/g00884/impl.tinctureWords", "loop.example/g00884/impl.kindWords", "loop.example/g00884/impl.countWords"], apart := false, laid := [("loop.example/g00884/impl.tinctureWords", laid_loop_example_g00884_impl_tinctureWords), ("loop.example/g00884/impl.countWords", laid_loop_example_g00884_impl_countWords), ("loop.example/g00884/impl.kindWords", laid_loop_example_g00884_impl_kindWords), ("loop.example/g00884/impl.attitudeWords", laid_loop_example_g00884_impl_attitudeWords)] }
def FnExactGroupTextSaid : Prop := fnExactGroupTextRow.holds Tryd.pinned (OpenSpec.ofChange fnExactGroupTextSpec)

/-- ITS FALSE NEIGHBOUR: 'it returns false'. Refute it at one input. -/
def fnExactGroupTextWrong : ChangeSpec := { name := "fnExactGroupText", vars := ["loop.example/g00884/impl.attitudeWords", "loop.example/g00884/impl.tinctureWords", "loop.example/g00884/impl.kindWords", "loop.example/g00884/impl.countWords"], fn := fun _ => fun
  | [d, g1, g2, g3, g4] => { results := [.lit (.bool false)], args := [d], vars := [g1, g2, g3, g4] }
  | _ => none }
def FnExactGroupTextWrongFalsely : Prop := fnExactGroupTextRow.holds Tryd.pinned (OpenSpec.ofChange fnExactGroupTextWrong)

/-- 'laws.FnExactParseGroup': WHATEVER THE INPUT: true; the input reads as it did. -/
def fnExactParseGroupSpec : ChangeSpec := { name := "fnExactParseGroup", vars := ["loop.example/g00884/impl.attitudeWords", "loop.example/g00884/impl.countWords", "loop.example/g00884/impl.kindWords", "loop.example/g00884/impl.tinctureWords"], fn := fun _ => fun
  | [d, g1, g2, g3, g4] => { results := [.lit (.bool true)], args := [d], vars := [g1, g2, g3, g4] }
  | _ => none }
def fnExactParseGroupRow : OpenClaim := { program := "ytklfkdmmclomoaadoor", sum := "68c962ceac3a6af6b44bd8090ae8759cae3a20d9151b9504553a25aad258552c", func := "loop.example/g00884/laws.FnExactParseGroup", spec := "fnExactParseGroup", inPlace := ["internal/abi.NoEscape", "internal/bytealg.MakeNoZero"], unfollowed := true, recurses := true, named := ["loop.example/g00884/impl.attitudeWords", "loop.example/g00884/impl.countWords", "loop.example/g00884/impl.kindWords", "loop.example/g00884/impl.tinctureWords"], apart := false, laid := [("loop.example/g00884/impl.tinctureWords", laid_loop_example_g00884_impl_tinctureWords), ("loop.example/g00884/impl.countWords", laid_loop_example_g00884_impl_countWords), ("loop.example/g00884/impl.kindWords", laid_loop_example_g00884_impl_kindWords), ("loop.example/g00884/impl.attitudeWords", laid_loop_example_g00884_impl_attitudeWords)] }
def FnExactParseGroupSaid : Prop := fnExactParseGroupRow.holds Tryd.pinned (OpenSpec.ofChange fnExactParseGroupSpec)

/-- ITS FALSE NEIGHBOUR: 'it returns false'. Refute it at one input. -/
def fnExactParseGroupWrong : ChangeSpec := { name := "fnExactParseGroup", vars := ["loop.example/g00884/impl.attitudeWords", "loop.example/g00884/impl.countWords", "loop.example/g00884/impl.kindWords", "loop.example/g00884/impl.tinctureWords"], fn := fun _ => fun
  | [d, g1, g2, g3, g4] => { results := [.lit (.bool false)], args := [d], vars := [g1, g2, g3, g4] }
  | _ => none }
def FnExactParseGroupWrongFalsely : Prop := fnExactParseGroupRow.holds Tryd.pinned (OpenSpec.ofChange fnExactParseGroupWrong)

/-- 'laws.FnExactKindWord': WHATEVER THE INPUT: true; the input reads as it did. -/
def fnExactKindWordSpec : ChangeSpec := { name := "fnExactKindWord", vars := ["loop.example/g00884/impl.kindWords"], fn := fun _ => fun
  | [d1, d2, g1] => { results := [.lit (.bool true)], args := [d1, d2], vars := [g1] }
  | _ => none }
def fnExactKindWordRow : OpenClaim := { program := "ytklfkdmmclomoaadoor", sum := "68c962ceac3a6af6b44bd8090ae8759cae3a20d9151b9504553a25aad258552c", func := "loop.example/g00884/laws.FnExactKindWord", spec := "fnExactKindWord", named := ["loop.example/g00884/impl.kindWords"], apart := false, laid := [("loop.example/g00884/impl.kindWords", laid_loop_example_g00884_impl_kindWords)] }
def FnExactKindWordSaid : Prop := fnExactKindWordRow.holds Tryd.pinned (OpenSpec.ofChange fnExactKindWordSpec)

/-- ITS FALSE NEIGHBOUR: 'it returns false'. Refute it at one input. -/
def fnExactKindWordWrong : ChangeSpec := { name := "fnExactKindWord", vars := ["loop.example/g00884/impl.kindWords"], fn := fun _ => fun
  | [d1, d2, g1] => { results := [.lit (.bool false)], args := [d1, d2], vars := [g1] }
  | _ => none }
def FnExactKindWordWrongFalsely : Prop := fnExactKindWordRow.holds Tryd.pinned (OpenSpec.ofChange fnExactKindWordWrong)

/-- 'laws.FnExactAttitudesOf': WHATEVER THE INPUT: true; the input reads as it did. -/
def fnExactAttitudesOfSpec : ChangeSpec := { name := "fnExactAttitudesOf", vars := ["loop.example/g00884/impl.attitudeWords"], fn := fun _ => fun
  | [d, g1] => { results := [.lit (.bool true)], args := [d], vars := [g1] }
  | _ => none }
def fnExactAttitudesOfRow : OpenClaim := { program := "ytklfkdmmclomoaadoor", sum := "68c962ceac3a6af6b44bd8090ae8759cae3a20d9151b9504553a25aad258552c", func := "loop.example/g00884/laws.FnExactAttitudesOf", spec := "fnExactAttitudesOf", named := ["loop.example/g00884/impl.attitudeWords"], apart := false, laid := [("loop.example/g00884/impl.attitudeWords", laid_loop_example_g00884_impl_attitudeWords)] }
def FnExactAttitudesOfSaid : Prop := fnExactAttitudesOfRow.holds Tryd.pinned (OpenSpec.ofChange fnExactAttitudesOfSpec)

/-- ITS FALSE NEIGHBOUR: 'it returns false'. Refute it at one input. -/
def fnExactAttitudesOfWrong : ChangeSpec := { name := "fnExactAttitudesOf", vars := ["loop.example/g00884/impl.attitudeWords"], fn := fun _ => fun
  | [d, g1] => { results := [.lit (.bool false)], args := [d], vars := [g1] }
  | _ => none }
def FnExactAttitudesOfWrongFalsely : Prop := fnExactAttitudesOfRow.holds Tryd.pinned (OpenSpec.ofChange fnExactAttitudesOfWrong)

/-- 'laws.FnExactGroupDifferences': WHATEVER THE INPUT: true; the input reads as it did. -/
def fnExactGroupDifferencesSpec : ChangeSpec := { name := "fnExactGroupDifferences", vars := ["loop.example/g00884/impl.attitudeWords"], fn := fun _ => fun
  | [d1, d2, g1] => { results := [.lit (.bool true)], args := [d1, d2], vars := [g1] }
  | _ => none }
def fnExactGroupDifferencesRow : OpenClaim := { program := "ytklfkdmmclomoaadoor", sum := "68c962ceac3a6af6b44bd8090ae8759cae3a20d9151b9504553a25aad258552c", func := "loop.example/g00884/laws.FnExactGroupDifferences", spec := "fnExactGroupDifferences", named := ["loop.example/g00884/impl.attitudeWords"], apart := false, laid := [("loop.example/g00884/impl.attitudeWords", laid_loop_example_g00884_impl_attitudeWords)] }
def FnExactGroupDifferencesSaid : Prop := fnExactGroupDifferencesRow.holds Tryd.pinned (OpenSpec.ofChange fnExactGroupDifferencesSpec)

/-- ITS FALSE NEIGHBOUR: 'it returns false'. Refute it at one input. -/
def fnExactGroupDifferencesWrong : ChangeSpec := { name := "fnExactGroupDifferences", vars := ["loop.example/g00884/impl.attitudeWords"], fn := fun _ => fun
  | [d1, d2, g1] => { results := [.lit (.bool false)], args := [d1, d2], vars := [g1] }
  | _ => none }
def FnExactGroupDifferencesWrongFalsely : Prop := fnExactGroupDifferencesRow.holds Tryd.pinned (OpenSpec.ofChange fnExactGroupDifferencesWrong)

/-- 'laws.FnExactJoinGroups': WHATEVER THE INPUT: true; the input reads as it did. -/
def fnExactJoinGroupsSpec : ChangeSpec := { name := "fnExactJoinGroups", vars := ["loop.example/g00884/impl.attitudeWords"], fn := fun _ => fun
  | [d1, d2, g1] => { results := [.lit (.bool true)], args := [d1, d2], vars := [g1] }
  | _ => none }
def fnExactJoinGroupsRow : OpenClaim := { program := "ytklfkdmmclomoaadoor", sum := "68c962ceac3a6af6b44bd8090ae8759cae3a20d9151b9504553a25aad258552c", func := "loop.example/g00884/laws.FnExactJoinGroups", spec := "fnExactJoinGroups", named := ["loop.example/g00884/impl.attitudeWords"], apart := false, laid := [("loop.example/g00884/impl.attitudeWords", laid_loop_example_g00884_impl_attitudeWords)] }
def FnExactJoinGroupsSaid : Prop := fnExactJoinGroupsRow.holds Tryd.pinned (OpenSpec.ofChange fnExactJoinGroupsSpec)

/-- ITS FALSE NEIGHBOUR: 'it returns false'. Refute it at one input. -/
def fnExactJoinGroupsWrong : ChangeSpec := { name := "fnExactJoinGroups", vars := ["loop.example/g00884/impl.attitudeWords"], fn := fun _ => fun
  | [d1, d2, g1] => { results := [.lit (.bool false)], args := [d1, d2], vars := [g1] }
  | _ => none }
def FnExactJoinGroupsWrongFalsely : Prop := fnExactJoinGroupsRow.holds Tryd.pinned (OpenSpec.ofChange fnExactJoinGroupsWrong)

/-- 'laws.FnExactRowsOf': WHATEVER THE INPUT: true; the input reads as it did. -/
def fnExactRowsOfSpec : ChangeSpec := { name := "fnExactRowsOf", vars := ["loop.example/g00884/impl.rowsOfCharges"], fn := fun _ => fun
  | [d, g1] => { results := [.lit (.bool true)], args := [d], vars := [g1] }
  | _ => none }
def fnExactRowsOfRow : OpenClaim := { program := "ytklfkdmmclomoaadoor", sum := "68c962ceac3a6af6b44bd8090ae8759cae3a20d9151b9504553a25aad258552c", func := "loop.example/g00884/laws.FnExactRowsOf", spec := "fnExactRowsOf", named := ["loop.example/g00884/impl.rowsOfCharges"], apart := false, laid := [("loop.example/g00884/impl.rowsOfCharges", laid_loop_example_g00884_impl_rowsOfCharges)] }
def FnExactRowsOfSaid : Prop := fnExactRowsOfRow.holds Tryd.pinned (OpenSpec.ofChange fnExactRowsOfSpec)

/-- ITS FALSE NEIGHBOUR: 'it returns false'. Refute it at one input. -/
def fnExactRowsOfWrong : ChangeSpec := { name := "fnExactRowsOf", vars := ["loop.example/g00884/impl.rowsOfCharges"], fn := fun _ => fun
  | [d, g1] => { results := [.lit (.bool false)], args := [d], vars := [g1] }
  | _ => none }
def FnExactRowsOfWrongFalsely : Prop := fnExactRowsOfRow.holds Tryd.pinned (OpenSpec.ofChange fnExactRowsOfWrong)

/-- 'laws.FnExactIsBeast': WHATEVER THE INPUT: true; the input reads as it did. -/
def fnExactIsBeastSpec : ChangeSpec := { name := "fnExactIsBeast", vars := ["loop.example/g00884/impl.attitudeWords"], fn := fun _ => fun
  | [d, g1] => { results := [.lit (.bool true)], args := [d], vars := [g1] }
  | _ => none }
def fnExactIsBeastRow : OpenClaim := { program := "ytklfkdmmclomoaadoor", sum := "68c962ceac3a6af6b44bd8090ae8759cae3a20d9151b9504553a25aad258552c", func := "loop.example/g00884/laws.FnExactIsBeast", spec := "fnExactIsBeast", named := ["loop.example/g00884/impl.attitudeWords"], apart := false, laid := [("loop.example/g00884/impl.attitudeWords", laid_loop_example_g00884_impl_attitudeWords)] }
def FnExactIsBeastSaid : Prop := fnExactIsBeastRow.holds Tryd.pinned (OpenSpec.ofChange fnExactIsBeastSpec)

/-- ITS FALSE NEIGHBOUR: 'it returns false'. Refute it at one input. -/
def fnExactIsBeastWrong : ChangeSpec := { name := "fnExactIsBeast", vars := ["loop.example/g00884/impl.attitudeWords"], fn := fun _ => fun
  | [d, g1] => { results := [.lit (.bool false)], args := [d], vars := [g1] }
  | _ => none }
def FnExactIsBeastWrongFalsely : Prop := fnExactIsBeastRow.holds Tryd.pinned (OpenSpec.ofChange fnExactIsBeastWrong)

/- THE SECOND FORM. 'bulk': how many values and letters a reading holds, each counted each time it is reached (what is shared counts as often as it is met; a slice's spare places count too). A statement '..UptoSaid' is the law's where the arguments, and the package variables that the reading takes, are together of bulk at most 1048576: NARROWER than '..Said'. Prove '..Said' where nothing that the law and all that it calls make is longer than what came in: it says more and counts as full. Else prove '..UptoSaid'. A law counts once. -/
mutual
def uptoBulk {H : Type} : DataW H → Nat
  | .lit (.string bytes) => bytes.length + 1
  | .lit _ => 1
  | .nil => 1
  | .ptr d => uptoBulk d + 1
  | .slice elems spare => uptoBulkAll elems + uptoBulkAll spare + 1
  | .agg parts => uptoBulkAll parts + 1
  | .iface _ d => uptoBulk d + 1
  | .map entries => uptoBulkEntries entries + 1
  | .held _ => 1
def uptoBulkAll {H : Type} : List (DataW H) → Nat
  | [] => 0
  | d :: r => uptoBulk d + uptoBulkAll r
def uptoBulkEntries {H : Type} : List (Lit × DataW H) → Nat
  | [] => 0
  | x :: r => uptoBulkEntry x + uptoBulkEntries r
def uptoBulkEntry {H : Type} : Lit × DataW H → Nat
  | (.string bytes, d) => bytes.length + uptoBulk d + 1
  | (_, d) => uptoBulk d + 1
 end
def uptoSmall : (H : Type) → List (DataW H) → Bool := fun _ ds => decide (uptoBulkAll ds ≤ 1048576)
def OpenSpec.upto (s : _root_.Go.ChangeSpec) : _root_.Go.OpenSpec := { _root_.Go.OpenSpec.ofChange s with cond := some uptoSmall }

/-- 'laws.FnGroups', WHERE WHAT IT READS IS OF BULK AT MOST 1048576: true; the input reads as it did. -/
def fnGroupsUptoRow : OpenClaim := { program := "ytklfkdmmclomoaadoor", sum := "68c962ceac3a6af6b44bd8090ae8759cae3a20d9151b9504553a25aad258552c", func := "loop.example/g00884/laws.FnGroups", spec := "fnGroups", inPlace := ["internal/abi.NoEscape", "internal/bytealg.MakeNoZero"], unfollowed := true, recurses := true, named := ["loop.example/g00884/impl.attitudeWords", "loop.example/g00884/impl.tinctureWords", "loop.example/g00884/impl.kindWords", "loop.example/g00884/impl.countWords", "loop.example/g00884/impl.rowsOfCharges"], apart := false, laid := [("loop.example/g00884/impl.tinctureWords", laid_loop_example_g00884_impl_tinctureWords), ("loop.example/g00884/impl.countWords", laid_loop_example_g00884_impl_countWords), ("loop.example/g00884/impl.kindWords", laid_loop_example_g00884_impl_kindWords), ("loop.example/g00884/impl.attitudeWords", laid_loop_example_g00884_impl_attitudeWords), ("loop.example/g00884/impl.rowsOfCharges", laid_loop_example_g00884_impl_rowsOfCharges)], narrowed := true }
def FnGroupsUptoSaid : Prop := fnGroupsUptoRow.holds Tryd.pinned (OpenSpec.upto fnGroupsSpec)

/-- 'laws.FnGroupDifferences', WHERE WHAT IT READS IS OF BULK AT MOST 1048576: true; the input reads as it did. -/
def fnGroupDifferencesUptoRow : OpenClaim := { program := "ytklfkdmmclomoaadoor", sum := "68c962ceac3a6af6b44bd8090ae8759cae3a20d9151b9504553a25aad258552c", func := "loop.example/g00884/laws.FnGroupDifferences", spec := "fnGroupDifferences", named := ["loop.example/g00884/impl.attitudeWords"], apart := false, laid := [("loop.example/g00884/impl.attitudeWords", laid_loop_example_g00884_impl_attitudeWords)], narrowed := true }
def FnGroupDifferencesUptoSaid : Prop := fnGroupDifferencesUptoRow.holds Tryd.pinned (OpenSpec.upto fnGroupDifferencesSpec)

/-- 'laws.FnExactIsValidGroup', WHERE WHAT IT READS IS OF BULK AT MOST 1048576: true; the input reads as it did. -/
def fnExactIsValidGroupUptoRow : OpenClaim := { program := "ytklfkdmmclomoaadoor", sum := "68c962ceac3a6af6b44bd8090ae8759cae3a20d9151b9504553a25aad258552c", func := "loop.example/g00884/laws.FnExactIsValidGroup", spec := "fnExactIsValidGroup", named := ["loop.example/g00884/impl.attitudeWords"], apart := false, laid := [("loop.example/g00884/impl.attitudeWords", laid_loop_example_g00884_impl_attitudeWords)], narrowed := true }
def FnExactIsValidGroupUptoSaid : Prop := fnExactIsValidGroupUptoRow.holds Tryd.pinned (OpenSpec.upto fnExactIsValidGroupSpec)

/-- 'laws.FnExactGroupText', WHERE WHAT IT READS IS OF BULK AT MOST 1048576: true; the input reads as it did. -/
def fnExactGroupTextUptoRow : OpenClaim := { program := "ytklfkdmmclomoaadoor", sum := "68c962ceac3a6af6b44bd8090ae8759cae3a20d9151b9504553a25aad258552c", func := "loop.example/g00884/laws.FnExactGroupText", spec := "fnExactGroupText", inPlace := ["internal/abi.NoEscape", "internal/bytealg.MakeNoZero"], named := ["loop.example/g00884/impl.attitudeWords", "loop.example/g00884/impl.tinctureWords", "loop.example/g00884/impl.kindWords", "loop.example/g00884/impl.countWords"], apart := false, laid := [("loop.example/g00884/impl.tinctureWords", laid_loop_example_g00884_impl_tinctureWords), ("loop.example/g00884/impl.countWords", laid_loop_example_g00884_impl_countWords), ("loop.example/g00884/impl.kindWords", laid_loop_example_g00884_impl_kindWords), ("loop.example/g00884/impl.attitudeWords", laid_loop_example_g00884_impl_attitudeWords)], narrowed := true }
def FnExactGroupTextUptoSaid : Prop := fnExactGroupTextUptoRow.holds Tryd.pinned (OpenSpec.upto fnExactGroupTextSpec)

/-- 'laws.FnExactParseGroup', WHERE WHAT IT READS IS OF BULK AT MOST 1048576: true; the input reads as it did. -/
def fnExactParseGroupUptoRow : OpenClaim := { program := "ytklfkdmmclomoaadoor", sum := "68c962ceac3a6af6b44bd8090ae8759cae3a20d9151b9504553a25aad258552c", func := "loop.example/g00884/laws.FnExactParseGroup", spec := "fnExactParseGroup", inPlace := ["internal/abi.NoEscape", "internal/bytealg.MakeNoZero"], unfollowed := true, recurses := true, named := ["loop.example/g00884/impl.attitudeWords", "loop.example/g00884/impl.countWords", "loop.example/g00884/impl.kindWords", "loop.example/g00884/impl.tinctureWords"], apart := false, laid := [("loop.example/g00884/impl.tinctureWords", laid_loop_example_g00884_impl_tinctureWords), ("loop.example/g00884/impl.countWords", laid_loop_example_g00884_impl_countWords), ("loop.example/g00884/impl.kindWords", laid_loop_example_g00884_impl_kindWords), ("loop.example/g00884/impl.attitudeWords", laid_loop_example_g00884_impl_attitudeWords)], narrowed := true }
def FnExactParseGroupUptoSaid : Prop := fnExactParseGroupUptoRow.holds Tryd.pinned (OpenSpec.upto fnExactParseGroupSpec)

/-- 'laws.FnExactKindWord', WHERE WHAT IT READS IS OF BULK AT MOST 1048576: true; the input reads as it did. -/
def fnExactKindWordUptoRow : OpenClaim := { program := "ytklfkdmmclomoaadoor", sum := "68c962ceac3a6af6b44bd8090ae8759cae3a20d9151b9504553a25aad258552c", func := "loop.example/g00884/laws.FnExactKindWord", spec := "fnExactKindWord", named := ["loop.example/g00884/impl.kindWords"], apart := false, laid := [("loop.example/g00884/impl.kindWords", laid_loop_example_g00884_impl_kindWords)], narrowed := true }
def FnExactKindWordUptoSaid : Prop := fnExactKindWordUptoRow.holds Tryd.pinned (OpenSpec.upto fnExactKindWordSpec)

/-- 'laws.FnExactAttitudesOf', WHERE WHAT IT READS IS OF BULK AT MOST 1048576: true; the input reads as it did. -/
def fnExactAttitudesOfUptoRow : OpenClaim := { program := "ytklfkdmmclomoaadoor", sum := "68c962ceac3a6af6b44bd8090ae8759cae3a20d9151b9504553a25aad258552c", func := "loop.example/g00884/laws.FnExactAttitudesOf", spec := "fnExactAttitudesOf", named := ["loop.example/g00884/impl.attitudeWords"], apart := false, laid := [("loop.example/g00884/impl.attitudeWords", laid_loop_example_g00884_impl_attitudeWords)], narrowed := true }
def FnExactAttitudesOfUptoSaid : Prop := fnExactAttitudesOfUptoRow.holds Tryd.pinned (OpenSpec.upto fnExactAttitudesOfSpec)

/-- 'laws.FnExactGroupDifferences', WHERE WHAT IT READS IS OF BULK AT MOST 1048576: true; the input reads as it did. -/
def fnExactGroupDifferencesUptoRow : OpenClaim := { program := "ytklfkdmmclomoaadoor", sum := "68c962ceac3a6af6b44bd8090ae8759cae3a20d9151b9504553a25aad258552c", func := "loop.example/g00884/laws.FnExactGroupDifferences", spec := "fnExactGroupDifferences", named := ["loop.example/g00884/impl.attitudeWords"], apart := false, laid := [("loop.example/g00884/impl.attitudeWords", laid_loop_example_g00884_impl_attitudeWords)], narrowed := true }
def FnExactGroupDifferencesUptoSaid : Prop := fnExactGroupDifferencesUptoRow.holds Tryd.pinned (OpenSpec.upto fnExactGroupDifferencesSpec)

/-- 'laws.FnExactJoinGroups', WHERE WHAT IT READS IS OF BULK AT MOST 1048576: true; the input reads as it did. -/
def fnExactJoinGroupsUptoRow : OpenClaim := { program := "ytklfkdmmclomoaadoor", sum := "68c962ceac3a6af6b44bd8090ae8759cae3a20d9151b9504553a25aad258552c", func := "loop.example/g00884/laws.FnExactJoinGroups", spec := "fnExactJoinGroups", named := ["loop.example/g00884/impl.attitudeWords"], apart := false, laid := [("loop.example/g00884/impl.attitudeWords", laid_loop_example_g00884_impl_attitudeWords)], narrowed := true }
def FnExactJoinGroupsUptoSaid : Prop := fnExactJoinGroupsUptoRow.holds Tryd.pinned (OpenSpec.upto fnExactJoinGroupsSpec)

/-- 'laws.FnExactRowsOf', WHERE WHAT IT READS IS OF BULK AT MOST 1048576: true; the input reads as it did. -/
def fnExactRowsOfUptoRow : OpenClaim := { program := "ytklfkdmmclomoaadoor", sum := "68c962ceac3a6af6b44bd8090ae8759cae3a20d9151b9504553a25aad258552c", func := "loop.example/g00884/laws.FnExactRowsOf", spec := "fnExactRowsOf", named := ["loop.example/g00884/impl.rowsOfCharges"], apart := false, laid := [("loop.example/g00884/impl.rowsOfCharges", laid_loop_example_g00884_impl_rowsOfCharges)], narrowed := true }
def FnExactRowsOfUptoSaid : Prop := fnExactRowsOfUptoRow.holds Tryd.pinned (OpenSpec.upto fnExactRowsOfSpec)

/-- 'laws.FnExactIsBeast', WHERE WHAT IT READS IS OF BULK AT MOST 1048576: true; the input reads as it did. -/
def fnExactIsBeastUptoRow : OpenClaim := { program := "ytklfkdmmclomoaadoor", sum := "68c962ceac3a6af6b44bd8090ae8759cae3a20d9151b9504553a25aad258552c", func := "loop.example/g00884/laws.FnExactIsBeast", spec := "fnExactIsBeast", named := ["loop.example/g00884/impl.attitudeWords"], apart := false, laid := [("loop.example/g00884/impl.attitudeWords", laid_loop_example_g00884_impl_attitudeWords)], narrowed := true }
def FnExactIsBeastUptoSaid : Prop := fnExactIsBeastUptoRow.holds Tryd.pinned (OpenSpec.upto fnExactIsBeastSpec)

end Rows
end Go.Proofs.YtklfkdmmclomoaaDoor
