/-
  NARROWER THAN 'FOR EVERY INPUT', by the rows' own cells (each row's printed sentence says how): FnOrder: laid · FnRules: laid · FnAllowed: laid · FnExactSortArms: laid · FnExactRuleFindings: laid · FnExactKeepsRules: laid · FnExactLenientFindings: laid · FnExactFindingText: laid · FnExactParseFinding: laid · FnExactAllowedAt: laid · FnExactRepairArms: laid.
  DERIVED. THE GIVEN ROWS OF THIS SEAT. 11 by the template 'for every input the law returns true; each argument reads behind the call as it read before'; 0 by the template 'total and deterministic' (their statements: YtgoelkgdjnhklaaDoorTotals.lean).
  GIVEN WITH THE SEED: the statements are not yours to turn. If you find one false, say at which input.
  Laid BY PROGRAM, IN A SANDBOX (cutbox-rows.mjs): the forced cells as the released guide's own fill.sh prints them over the translation ef9bfc2ebdb82d06… (all of the seat's roots in one cut). By AI agents, Wed Nov 11 2026. No macro, syntax, notation, axiom, sorry.
-/
import Derived.Test.YtgoelkgdjnhklaaDoorChecked
import GoSem.Claim
import GoSem.ClaimJoined
import GoSem.ClaimMapViews
import Derived.JoinedTies
import Derived.KernelRfl
namespace Go.Proofs.YtgoelkgdjnhklaaDoor
/- THE CELL 'sum', in the pinned program and in every row, IS THE sha256 OF THE DUMP (.gsa) THAT YtgoelkgdjnhklaaDoorProg.lean LOADS. Nothing in Lean hashes anything: it is a label: what it is worth is what the hold of that sum in a sandbox is worth. -/
noncomputable def Tryd.pinned : Pinned := { name := "ytgoelkgdjnhklaadoor", sum := "ef9bfc2ebdb82d06a73011b2916983a72e5048abd54a95ed2d995a03a3784e9a", checked := Tryd.checked }
namespace Rows
def none {H : Type} : Left H := { results := [], args := [] }

/- WHAT THE LISTED PACKAGE-LEVEL VARIABLES READ AS WHEN THE CALL BEGINS. Each datum BY PROGRAM (the guide's laid-datum.mjs) off the statement by which the dump's own 'gosem.cut.vars' lays the variable. In a bare row this is a premise. The card (YtgoelkgdjnhklaaDoorCards.lean) ties it to the program's text. -/
def laid_loop_example_g00884_impl_tinctureWords {H : Type} : DataW H := .agg [.lit (.string [103, 111, 108, 100]), .lit (.string [115, 105, 108, 118, 101, 114]), .lit (.string [114, 101, 100]), .lit (.string [98, 108, 117, 101]), .lit (.string [98, 108, 97, 99, 107]), .lit (.string [103, 114, 101, 101, 110]), .lit (.string [112, 117, 114, 112, 108, 101]), .lit (.string [101, 114, 109, 105, 110, 101]), .lit (.string [118, 97, 105, 114])]
def laid_loop_example_g00884_impl_divisionWords {H : Type} : DataW H := .agg [.lit (.string [112, 101, 114, 32, 112, 97, 108, 101]), .lit (.string [112, 101, 114, 32, 102, 101, 115, 115]), .lit (.string [112, 101, 114, 32, 98, 101, 110, 100]), .lit (.string [113, 117, 97, 114, 116, 101, 114, 108, 121]), .lit (.string [112, 101, 114, 32, 115, 97, 108, 116, 105, 114, 101]), .lit (.string [112, 97, 108, 121]), .lit (.string [98, 97, 114, 114, 121])]
def laid_loop_example_g00884_impl_lineWords {H : Type} : DataW H := .agg [.lit (.string [101, 110, 103, 114, 97, 105, 108, 101, 100]), .lit (.string [119, 97, 118, 121]), .lit (.string [101, 109, 98, 97, 116, 116, 108, 101, 100]), .lit (.string [105, 110, 100, 101, 110, 116, 101, 100])]
def laid_loop_example_g00884_impl_countWords {H : Type} : DataW H := .agg [.lit (.string [97]), .lit (.string [116, 119, 111]), .lit (.string [116, 104, 114, 101, 101]), .lit (.string [102, 111, 117, 114]), .lit (.string [102, 105, 118, 101]), .lit (.string [115, 105, 120])]
def laid_loop_example_g00884_impl_kindWords {H : Type} : DataW H := .agg [.lit (.string [108, 105, 111, 110]), .lit (.string [101, 97, 103, 108, 101]), .lit (.string [102, 105, 115, 104]), .lit (.string [114, 111, 115, 101]), .lit (.string [115, 116, 97, 114]), .lit (.string [116, 111, 119, 101, 114]), .lit (.string [107, 101, 121]), .lit (.string [115, 119, 111, 114, 100])]
def laid_loop_example_g00884_impl_attitudeWords {H : Type} : DataW H := .agg [.slice [.lit (.string [114, 97, 109, 112, 97, 110, 116]), .lit (.string [112, 97, 115, 115, 97, 110, 116])] [], .slice [.lit (.string [100, 105, 115, 112, 108, 97, 121, 101, 100]), .lit (.string [114, 105, 115, 105, 110, 103])] [], .slice [.lit (.string [115, 119, 105, 109, 109, 105, 110, 103]), .lit (.string [117, 112, 114, 105, 103, 104, 116])] [], .nil, .nil, .nil, .nil, .nil]
def laid_loop_example_g00884_impl_ordinaryWords {H : Type} : DataW H := .agg [.lit (.string [112, 97, 108, 101]), .lit (.string [102, 101, 115, 115]), .lit (.string [98, 101, 110, 100]), .lit (.string [99, 104, 101, 118, 114, 111, 110]), .lit (.string [99, 114, 111, 115, 115]), .lit (.string [115, 97, 108, 116, 105, 114, 101]), .lit (.string [99, 104, 105, 101, 102])]
def laid_loop_example_g00884_impl_findingStarts {H : Type} : DataW H := .agg [.lit (.string [84, 104, 101, 32, 111, 114, 100, 105, 110, 97, 114, 121, 32, 105, 115]), .lit (.string [84, 104, 101, 32, 99, 104, 97, 114, 103, 101, 115, 32, 111, 110, 32, 116, 104, 101, 32, 111, 114, 100, 105, 110, 97, 114, 121, 32, 97, 114, 101]), .lit (.string [84, 104, 101, 32, 99, 104, 97, 114, 103, 101, 115, 32, 97, 114, 111, 117, 110, 100, 32, 105, 116, 32, 97, 114, 101])]

/-- 'laws.FnOrder': WHATEVER THE INPUT: true; the input reads as it did. -/
def fnOrderSpec : ChangeSpec := { name := "fnOrder", vars := ["loop.example/g00884/impl.attitudeWords", "loop.example/g00884/impl.divisionWords", "loop.example/g00884/impl.lineWords", "loop.example/g00884/impl.tinctureWords", "loop.example/g00884/impl.ordinaryWords", "loop.example/g00884/impl.kindWords", "loop.example/g00884/impl.countWords"], fn := fun _ => fun
  | [d, g1, g2, g3, g4, g5, g6, g7] => { results := [.lit (.bool true)], args := [d], vars := [g1, g2, g3, g4, g5, g6, g7] }
  | _ => none }
def fnOrderRow : OpenClaim := { program := "ytgoelkgdjnhklaadoor", sum := "ef9bfc2ebdb82d06a73011b2916983a72e5048abd54a95ed2d995a03a3784e9a", func := "loop.example/g00884/laws.FnOrder", spec := "fnOrder", inPlace := ["internal/abi.NoEscape", "internal/bytealg.MakeNoZero", "internal/bytealg.abigen_runtime_cmpstring"], unfollowed := true, recurses := true, named := ["loop.example/g00884/impl.attitudeWords", "loop.example/g00884/impl.divisionWords", "loop.example/g00884/impl.lineWords", "loop.example/g00884/impl.tinctureWords", "loop.example/g00884/impl.ordinaryWords", "loop.example/g00884/impl.kindWords", "loop.example/g00884/impl.countWords"], apart := false, laid := [("loop.example/g00884/impl.tinctureWords", laid_loop_example_g00884_impl_tinctureWords), ("loop.example/g00884/impl.divisionWords", laid_loop_example_g00884_impl_divisionWords), ("loop.example/g00884/impl.lineWords", laid_loop_example_g00884_impl_lineWords), ("loop.example/g00884/impl.countWords", laid_loop_example_g00884_impl_countWords), ("loop.example/g00884/impl.kindWords", laid_loop_example_g00884_impl_kindWords), ("loop.example/g00884/impl.attitudeWords", laid_loop_example_g00884_impl_attitudeWords), ("loop.example/g00884/impl.ordinaryWords", laid_loop_example_g00884_impl_ordinaryWords)] }
def FnOrderSaid : Prop := fnOrderRow.holds Tryd.pinned (OpenSpec.ofChange fnOrderSpec)

/-- ITS FALSE NEIGHBOUR: 'it returns false'. Refute it at one input. -/
def fnOrderWrong : ChangeSpec := { name := "fnOrder", vars := ["loop.example/g00884/impl.attitudeWords", "loop.example/g00884/impl.divisionWords", "loop.example/g00884/impl.lineWords", "loop.example/g00884/impl.tinctureWords", "loop.example/g00884/impl.ordinaryWords", "loop.example/g00884/impl.kindWords", "loop.example/g00884/impl.countWords"], fn := fun _ => fun
  | [d, g1, g2, g3, g4, g5, g6, g7] => { results := [.lit (.bool false)], args := [d], vars := [g1, g2, g3, g4, g5, g6, g7] }
  | _ => none }
def FnOrderWrongFalsely : Prop := fnOrderRow.holds Tryd.pinned (OpenSpec.ofChange fnOrderWrong)

/-- 'laws.FnRules': WHATEVER THE INPUT: true; the input reads as it did. -/
def fnRulesSpec : ChangeSpec := { name := "fnRules", vars := ["loop.example/g00884/impl.attitudeWords", "loop.example/g00884/impl.tinctureWords", "loop.example/g00884/impl.findingStarts"], fn := fun _ => fun
  | [d, g1, g2, g3] => { results := [.lit (.bool true)], args := [d], vars := [g1, g2, g3] }
  | _ => none }
def fnRulesRow : OpenClaim := { program := "ytgoelkgdjnhklaadoor", sum := "ef9bfc2ebdb82d06a73011b2916983a72e5048abd54a95ed2d995a03a3784e9a", func := "loop.example/g00884/laws.FnRules", spec := "fnRules", inPlace := ["internal/bytealg.IndexByteString", "internal/bytealg.IndexString"], unfollowed := true, recurses := true, named := ["loop.example/g00884/impl.attitudeWords", "loop.example/g00884/impl.tinctureWords", "loop.example/g00884/impl.findingStarts", "internal/bytealg.MaxLen"], apart := false, laid := [("loop.example/g00884/impl.tinctureWords", laid_loop_example_g00884_impl_tinctureWords), ("loop.example/g00884/impl.attitudeWords", laid_loop_example_g00884_impl_attitudeWords), ("loop.example/g00884/impl.findingStarts", laid_loop_example_g00884_impl_findingStarts)] }
def FnRulesSaid : Prop := fnRulesRow.holds Tryd.pinned (OpenSpec.ofChange fnRulesSpec)

/-- ITS FALSE NEIGHBOUR: 'it returns false'. Refute it at one input. -/
def fnRulesWrong : ChangeSpec := { name := "fnRules", vars := ["loop.example/g00884/impl.attitudeWords", "loop.example/g00884/impl.tinctureWords", "loop.example/g00884/impl.findingStarts"], fn := fun _ => fun
  | [d, g1, g2, g3] => { results := [.lit (.bool false)], args := [d], vars := [g1, g2, g3] }
  | _ => none }
def FnRulesWrongFalsely : Prop := fnRulesRow.holds Tryd.pinned (OpenSpec.ofChange fnRulesWrong)

/-- 'laws.FnAllowed': WHATEVER THE INPUT: true; the input reads as it did. -/
def fnAllowedSpec : ChangeSpec := { name := "fnAllowed", vars := ["loop.example/g00884/impl.attitudeWords"], fn := fun _ => fun
  | [d, g1] => { results := [.lit (.bool true)], args := [d], vars := [g1] }
  | _ => none }
def fnAllowedRow : OpenClaim := { program := "ytgoelkgdjnhklaadoor", sum := "ef9bfc2ebdb82d06a73011b2916983a72e5048abd54a95ed2d995a03a3784e9a", func := "loop.example/g00884/laws.FnAllowed", spec := "fnAllowed", unfollowed := true, recurses := true, named := ["loop.example/g00884/impl.attitudeWords"], apart := false, laid := [("loop.example/g00884/impl.attitudeWords", laid_loop_example_g00884_impl_attitudeWords)] }
def FnAllowedSaid : Prop := fnAllowedRow.holds Tryd.pinned (OpenSpec.ofChange fnAllowedSpec)

/-- ITS FALSE NEIGHBOUR: 'it returns false'. Refute it at one input. -/
def fnAllowedWrong : ChangeSpec := { name := "fnAllowed", vars := ["loop.example/g00884/impl.attitudeWords"], fn := fun _ => fun
  | [d, g1] => { results := [.lit (.bool false)], args := [d], vars := [g1] }
  | _ => none }
def FnAllowedWrongFalsely : Prop := fnAllowedRow.holds Tryd.pinned (OpenSpec.ofChange fnAllowedWrong)

/-- 'laws.FnExactSortArms': WHATEVER THE INPUT: true; the input reads as it did. -/
def fnExactSortArmsSpec : ChangeSpec := { name := "fnExactSortArms", vars := ["loop.example/g00884/impl.attitudeWords", "loop.example/g00884/impl.divisionWords", "loop.example/g00884/impl.lineWords", "loop.example/g00884/impl.tinctureWords", "loop.example/g00884/impl.ordinaryWords", "loop.example/g00884/impl.kindWords", "loop.example/g00884/impl.countWords"], fn := fun _ => fun
  | [d, g1, g2, g3, g4, g5, g6, g7] => { results := [.lit (.bool true)], args := [d], vars := [g1, g2, g3, g4, g5, g6, g7] }
  | _ => none }
def fnExactSortArmsRow : OpenClaim := { program := "ytgoelkgdjnhklaadoor", sum := "ef9bfc2ebdb82d06a73011b2916983a72e5048abd54a95ed2d995a03a3784e9a", func := "loop.example/g00884/laws.FnExactSortArms", spec := "fnExactSortArms", inPlace := ["internal/abi.NoEscape", "internal/bytealg.MakeNoZero", "internal/bytealg.abigen_runtime_cmpstring"], unfollowed := true, recurses := true, named := ["loop.example/g00884/impl.attitudeWords", "loop.example/g00884/impl.divisionWords", "loop.example/g00884/impl.lineWords", "loop.example/g00884/impl.tinctureWords", "loop.example/g00884/impl.ordinaryWords", "loop.example/g00884/impl.kindWords", "loop.example/g00884/impl.countWords"], apart := false, laid := [("loop.example/g00884/impl.tinctureWords", laid_loop_example_g00884_impl_tinctureWords), ("loop.example/g00884/impl.divisionWords", laid_loop_example_g00884_impl_divisionWords), ("loop.example/g00884/impl.lineWords", laid_loop_example_g00884_impl_lineWords), ("loop.example/g00884/impl.countWords", laid_loop_example_g00884_impl_countWords), ("loop.example/g00884/impl.kindWords", laid_loop_example_g00884_impl_kindWords), ("loop.example/g00884/impl.attitudeWords", laid_loop_example_g00884_impl_attitudeWords), ("loop.example/g00884/impl.ordinaryWords", laid_loop_example_g00884_impl_ordinaryWords)] }
def FnExactSortArmsSaid : Prop := fnExactSortArmsRow.holds Tryd.pinned (OpenSpec.ofChange fnExactSortArmsSpec)

/-- ITS FALSE NEIGHBOUR: 'it returns false'. Refute it at one input. -/
def fnExactSortArmsWrong : ChangeSpec := { name := "fnExactSortArms", vars := ["loop.example/g00884/impl.attitudeWords", "loop.example/g00884/impl.divisionWords", "loop.example/g00884/impl.lineWords", "loop.example/g00884/impl.tinctureWords", "loop.example/g00884/impl.ordinaryWords", "loop.example/g00884/impl.kindWords", "loop.example/g00884/impl.countWords"], fn := fun _ => fun
  | [d, g1, g2, g3, g4, g5, g6, g7] => { results := [.lit (.bool false)], args := [d], vars := [g1, g2, g3, g4, g5, g6, g7] }
  | _ => none }
def FnExactSortArmsWrongFalsely : Prop := fnExactSortArmsRow.holds Tryd.pinned (OpenSpec.ofChange fnExactSortArmsWrong)

/-- 'laws.FnExactRuleFindings': WHATEVER THE INPUT: true; the input reads as it did. -/
def fnExactRuleFindingsSpec : ChangeSpec := { name := "fnExactRuleFindings", vars := ["loop.example/g00884/impl.attitudeWords"], fn := fun _ => fun
  | [d, g1] => { results := [.lit (.bool true)], args := [d], vars := [g1] }
  | _ => none }
def fnExactRuleFindingsRow : OpenClaim := { program := "ytgoelkgdjnhklaadoor", sum := "ef9bfc2ebdb82d06a73011b2916983a72e5048abd54a95ed2d995a03a3784e9a", func := "loop.example/g00884/laws.FnExactRuleFindings", spec := "fnExactRuleFindings", named := ["loop.example/g00884/impl.attitudeWords"], apart := false, laid := [("loop.example/g00884/impl.attitudeWords", laid_loop_example_g00884_impl_attitudeWords)] }
def FnExactRuleFindingsSaid : Prop := fnExactRuleFindingsRow.holds Tryd.pinned (OpenSpec.ofChange fnExactRuleFindingsSpec)

/-- ITS FALSE NEIGHBOUR: 'it returns false'. Refute it at one input. -/
def fnExactRuleFindingsWrong : ChangeSpec := { name := "fnExactRuleFindings", vars := ["loop.example/g00884/impl.attitudeWords"], fn := fun _ => fun
  | [d, g1] => { results := [.lit (.bool false)], args := [d], vars := [g1] }
  | _ => none }
def FnExactRuleFindingsWrongFalsely : Prop := fnExactRuleFindingsRow.holds Tryd.pinned (OpenSpec.ofChange fnExactRuleFindingsWrong)

/-- 'laws.FnExactKeepsRules': WHATEVER THE INPUT: true; the input reads as it did. -/
def fnExactKeepsRulesSpec : ChangeSpec := { name := "fnExactKeepsRules", vars := ["loop.example/g00884/impl.attitudeWords"], fn := fun _ => fun
  | [d, g1] => { results := [.lit (.bool true)], args := [d], vars := [g1] }
  | _ => none }
def fnExactKeepsRulesRow : OpenClaim := { program := "ytgoelkgdjnhklaadoor", sum := "ef9bfc2ebdb82d06a73011b2916983a72e5048abd54a95ed2d995a03a3784e9a", func := "loop.example/g00884/laws.FnExactKeepsRules", spec := "fnExactKeepsRules", named := ["loop.example/g00884/impl.attitudeWords"], apart := false, laid := [("loop.example/g00884/impl.attitudeWords", laid_loop_example_g00884_impl_attitudeWords)] }
def FnExactKeepsRulesSaid : Prop := fnExactKeepsRulesRow.holds Tryd.pinned (OpenSpec.ofChange fnExactKeepsRulesSpec)

/-- ITS FALSE NEIGHBOUR: 'it returns false'. Refute it at one input. -/
def fnExactKeepsRulesWrong : ChangeSpec := { name := "fnExactKeepsRules", vars := ["loop.example/g00884/impl.attitudeWords"], fn := fun _ => fun
  | [d, g1] => { results := [.lit (.bool false)], args := [d], vars := [g1] }
  | _ => none }
def FnExactKeepsRulesWrongFalsely : Prop := fnExactKeepsRulesRow.holds Tryd.pinned (OpenSpec.ofChange fnExactKeepsRulesWrong)

/-- 'laws.FnExactLenientFindings': WHATEVER THE INPUT: true; the input reads as it did. -/
def fnExactLenientFindingsSpec : ChangeSpec := { name := "fnExactLenientFindings", vars := ["loop.example/g00884/impl.attitudeWords"], fn := fun _ => fun
  | [d, g1] => { results := [.lit (.bool true)], args := [d], vars := [g1] }
  | _ => none }
def fnExactLenientFindingsRow : OpenClaim := { program := "ytgoelkgdjnhklaadoor", sum := "ef9bfc2ebdb82d06a73011b2916983a72e5048abd54a95ed2d995a03a3784e9a", func := "loop.example/g00884/laws.FnExactLenientFindings", spec := "fnExactLenientFindings", unfollowed := true, recurses := true, named := ["loop.example/g00884/impl.attitudeWords"], apart := false, laid := [("loop.example/g00884/impl.attitudeWords", laid_loop_example_g00884_impl_attitudeWords)] }
def FnExactLenientFindingsSaid : Prop := fnExactLenientFindingsRow.holds Tryd.pinned (OpenSpec.ofChange fnExactLenientFindingsSpec)

/-- ITS FALSE NEIGHBOUR: 'it returns false'. Refute it at one input. -/
def fnExactLenientFindingsWrong : ChangeSpec := { name := "fnExactLenientFindings", vars := ["loop.example/g00884/impl.attitudeWords"], fn := fun _ => fun
  | [d, g1] => { results := [.lit (.bool false)], args := [d], vars := [g1] }
  | _ => none }
def FnExactLenientFindingsWrongFalsely : Prop := fnExactLenientFindingsRow.holds Tryd.pinned (OpenSpec.ofChange fnExactLenientFindingsWrong)

/-- 'laws.FnExactFindingText': WHATEVER THE INPUT: true; the input reads as it did. -/
def fnExactFindingTextSpec : ChangeSpec := { name := "fnExactFindingText", vars := ["loop.example/g00884/impl.tinctureWords", "loop.example/g00884/impl.findingStarts"], fn := fun _ => fun
  | [d, g1, g2] => { results := [.lit (.bool true)], args := [d], vars := [g1, g2] }
  | _ => none }
def fnExactFindingTextRow : OpenClaim := { program := "ytgoelkgdjnhklaadoor", sum := "ef9bfc2ebdb82d06a73011b2916983a72e5048abd54a95ed2d995a03a3784e9a", func := "loop.example/g00884/laws.FnExactFindingText", spec := "fnExactFindingText", named := ["loop.example/g00884/impl.tinctureWords", "loop.example/g00884/impl.findingStarts"], apart := false, laid := [("loop.example/g00884/impl.tinctureWords", laid_loop_example_g00884_impl_tinctureWords), ("loop.example/g00884/impl.findingStarts", laid_loop_example_g00884_impl_findingStarts)] }
def FnExactFindingTextSaid : Prop := fnExactFindingTextRow.holds Tryd.pinned (OpenSpec.ofChange fnExactFindingTextSpec)

/-- ITS FALSE NEIGHBOUR: 'it returns false'. Refute it at one input. -/
def fnExactFindingTextWrong : ChangeSpec := { name := "fnExactFindingText", vars := ["loop.example/g00884/impl.tinctureWords", "loop.example/g00884/impl.findingStarts"], fn := fun _ => fun
  | [d, g1, g2] => { results := [.lit (.bool false)], args := [d], vars := [g1, g2] }
  | _ => none }
def FnExactFindingTextWrongFalsely : Prop := fnExactFindingTextRow.holds Tryd.pinned (OpenSpec.ofChange fnExactFindingTextWrong)

/-- 'laws.FnExactParseFinding': WHATEVER THE INPUT: true; the input reads as it did. -/
def fnExactParseFindingSpec : ChangeSpec := { name := "fnExactParseFinding", vars := ["loop.example/g00884/impl.findingStarts", "loop.example/g00884/impl.tinctureWords"], fn := fun _ => fun
  | [d, g1, g2] => { results := [.lit (.bool true)], args := [d], vars := [g1, g2] }
  | _ => none }
def fnExactParseFindingRow : OpenClaim := { program := "ytgoelkgdjnhklaadoor", sum := "ef9bfc2ebdb82d06a73011b2916983a72e5048abd54a95ed2d995a03a3784e9a", func := "loop.example/g00884/laws.FnExactParseFinding", spec := "fnExactParseFinding", inPlace := ["internal/bytealg.IndexByteString", "internal/bytealg.IndexString"], named := ["loop.example/g00884/impl.findingStarts", "internal/bytealg.MaxLen", "loop.example/g00884/impl.tinctureWords"], apart := false, laid := [("loop.example/g00884/impl.tinctureWords", laid_loop_example_g00884_impl_tinctureWords), ("loop.example/g00884/impl.findingStarts", laid_loop_example_g00884_impl_findingStarts)] }
def FnExactParseFindingSaid : Prop := fnExactParseFindingRow.holds Tryd.pinned (OpenSpec.ofChange fnExactParseFindingSpec)

/-- ITS FALSE NEIGHBOUR: 'it returns false'. Refute it at one input. -/
def fnExactParseFindingWrong : ChangeSpec := { name := "fnExactParseFinding", vars := ["loop.example/g00884/impl.findingStarts", "loop.example/g00884/impl.tinctureWords"], fn := fun _ => fun
  | [d, g1, g2] => { results := [.lit (.bool false)], args := [d], vars := [g1, g2] }
  | _ => none }
def FnExactParseFindingWrongFalsely : Prop := fnExactParseFindingRow.holds Tryd.pinned (OpenSpec.ofChange fnExactParseFindingWrong)

/-- 'laws.FnExactAllowedAt': WHATEVER THE INPUT: true; the input reads as it did. -/
def fnExactAllowedAtSpec : ChangeSpec := { name := "fnExactAllowedAt", vars := ["loop.example/g00884/impl.attitudeWords"], fn := fun _ => fun
  | [d1, d2, g1] => { results := [.lit (.bool true)], args := [d1, d2], vars := [g1] }
  | _ => none }
def fnExactAllowedAtRow : OpenClaim := { program := "ytgoelkgdjnhklaadoor", sum := "ef9bfc2ebdb82d06a73011b2916983a72e5048abd54a95ed2d995a03a3784e9a", func := "loop.example/g00884/laws.FnExactAllowedAt", spec := "fnExactAllowedAt", named := ["loop.example/g00884/impl.attitudeWords"], apart := false, laid := [("loop.example/g00884/impl.attitudeWords", laid_loop_example_g00884_impl_attitudeWords)] }
def FnExactAllowedAtSaid : Prop := fnExactAllowedAtRow.holds Tryd.pinned (OpenSpec.ofChange fnExactAllowedAtSpec)

/-- ITS FALSE NEIGHBOUR: 'it returns false'. Refute it at one input. -/
def fnExactAllowedAtWrong : ChangeSpec := { name := "fnExactAllowedAt", vars := ["loop.example/g00884/impl.attitudeWords"], fn := fun _ => fun
  | [d1, d2, g1] => { results := [.lit (.bool false)], args := [d1, d2], vars := [g1] }
  | _ => none }
def FnExactAllowedAtWrongFalsely : Prop := fnExactAllowedAtRow.holds Tryd.pinned (OpenSpec.ofChange fnExactAllowedAtWrong)

/-- 'laws.FnExactRepairArms': WHATEVER THE INPUT: true; the input reads as it did. -/
def fnExactRepairArmsSpec : ChangeSpec := { name := "fnExactRepairArms", vars := ["loop.example/g00884/impl.attitudeWords"], fn := fun _ => fun
  | [d, g1] => { results := [.lit (.bool true)], args := [d], vars := [g1] }
  | _ => none }
def fnExactRepairArmsRow : OpenClaim := { program := "ytgoelkgdjnhklaadoor", sum := "ef9bfc2ebdb82d06a73011b2916983a72e5048abd54a95ed2d995a03a3784e9a", func := "loop.example/g00884/laws.FnExactRepairArms", spec := "fnExactRepairArms", unfollowed := true, recurses := true, named := ["loop.example/g00884/impl.attitudeWords"], apart := false, laid := [("loop.example/g00884/impl.attitudeWords", laid_loop_example_g00884_impl_attitudeWords)] }
def FnExactRepairArmsSaid : Prop := fnExactRepairArmsRow.holds Tryd.pinned (OpenSpec.ofChange fnExactRepairArmsSpec)

/-- ITS FALSE NEIGHBOUR: 'it returns false'. Refute it at one input. -/
def fnExactRepairArmsWrong : ChangeSpec := { name := "fnExactRepairArms", vars := ["loop.example/g00884/impl.attitudeWords"], fn := fun _ => fun
  | [d, g1] => { results := [.lit (.bool false)], args := [d], vars := [g1] }
  | _ => none }
def FnExactRepairArmsWrongFalsely : Prop := fnExactRepairArmsRow.holds Tryd.pinned (OpenSpec.ofChange fnExactRepairArmsWrong)

/- THE SECOND FORM. 'bulk': how many values and letters a reading holds, each counted each time it is reached (what is shared counts as often as it is met; a slice's spare places count too). A statement '..UptoSaid' is the law's where the arguments, and the package variables that the reading takes, are together of bulk at most 1048576: NARROWER than '..Said'. Prove '..Said' where nothing that the law and all that it calls make is longer than what came in: it says more and counts as full. Else prove '..UptoSaid'. A law counts once. -/
mutual
def uptoBulk {H : Type} : DataW H → Nat
  | .lit (.string bytes) => bytes.length + 1
  | .lit _ => 1
  | .nil => 1
  | .ptr d => uptoBulk d + 1
  | .slice elems spare => uptoBulkAll elems + uptoBulkAll spare + 1
  | .agg parts => uptoBulkAll parts + 1
  | .iface _ d => uptoBulk d + 1
  | .map entries => uptoBulkEntries entries + 1
  | .held _ => 1
def uptoBulkAll {H : Type} : List (DataW H) → Nat
  | [] => 0
  | d :: r => uptoBulk d + uptoBulkAll r
def uptoBulkEntries {H : Type} : List (Lit × DataW H) → Nat
  | [] => 0
  | x :: r => uptoBulkEntry x + uptoBulkEntries r
def uptoBulkEntry {H : Type} : Lit × DataW H → Nat
  | (.string bytes, d) => bytes.length + uptoBulk d + 1
  | (_, d) => uptoBulk d + 1
 end
def uptoSmall : (H : Type) → List (DataW H) → Bool := fun _ ds => decide (uptoBulkAll ds ≤ 1048576)
def OpenSpec.upto (s : _root_.Go.ChangeSpec) : _root_.Go.OpenSpec := { _root_.Go.OpenSpec.ofChange s with cond := some uptoSmall }

/-- 'laws.FnOrder', WHERE WHAT IT READS IS OF BULK AT MOST 1048576: true; the input reads as it did. -/
def fnOrderUptoRow : OpenClaim := { program := "ytgoelkgdjnhklaadoor", sum := "ef9bfc2ebdb82d06a73011b2916983a72e5048abd54a95ed2d995a03a3784e9a", func := "loop.example/g00884/laws.FnOrder", spec := "fnOrder", inPlace := ["internal/abi.NoEscape", "internal/bytealg.MakeNoZero", "internal/bytealg.abigen_runtime_cmpstring"], unfollowed := true, recurses := true, named := ["loop.example/g00884/impl.attitudeWords", "loop.example/g00884/impl.divisionWords", "loop.example/g00884/impl.lineWords", "loop.example/g00884/impl.tinctureWords", "loop.example/g00884/impl.ordinaryWords", "loop.example/g00884/impl.kindWords", "loop.example/g00884/impl.countWords"], apart := false, laid := [("loop.example/g00884/impl.tinctureWords", laid_loop_example_g00884_impl_tinctureWords), ("loop.example/g00884/impl.divisionWords", laid_loop_example_g00884_impl_divisionWords), ("loop.example/g00884/impl.lineWords", laid_loop_example_g00884_impl_lineWords), ("loop.example/g00884/impl.countWords", laid_loop_example_g00884_impl_countWords), ("loop.example/g00884/impl.kindWords", laid_loop_example_g00884_impl_kindWords), ("loop.example/g00884/impl.attitudeWords", laid_loop_example_g00884_impl_attitudeWords), ("loop.example/g00884/impl.ordinaryWords", laid_loop_example_g00884_impl_ordinaryWords)], narrowed := true }
def FnOrderUptoSaid : Prop := fnOrderUptoRow.holds Tryd.pinned (OpenSpec.upto fnOrderSpec)

/-- 'laws.FnRules', WHERE WHAT IT READS IS OF BULK AT MOST 1048576: true; the input reads as it did. -/
def fnRulesUptoRow : OpenClaim := { program := "ytgoelkgdjnhklaadoor", sum := "ef9bfc2ebdb82d06a73011b2916983a72e5048abd54a95ed2d995a03a3784e9a", func := "loop.example/g00884/laws.FnRules", spec := "fnRules", inPlace := ["internal/bytealg.IndexByteString", "internal/bytealg.IndexString"], unfollowed := true, recurses := true, named := ["loop.example/g00884/impl.attitudeWords", "loop.example/g00884/impl.tinctureWords", "loop.example/g00884/impl.findingStarts", "internal/bytealg.MaxLen"], apart := false, laid := [("loop.example/g00884/impl.tinctureWords", laid_loop_example_g00884_impl_tinctureWords), ("loop.example/g00884/impl.attitudeWords", laid_loop_example_g00884_impl_attitudeWords), ("loop.example/g00884/impl.findingStarts", laid_loop_example_g00884_impl_findingStarts)], narrowed := true }
def FnRulesUptoSaid : Prop := fnRulesUptoRow.holds Tryd.pinned (OpenSpec.upto fnRulesSpec)

/-- 'laws.FnAllowed', WHERE WHAT IT READS IS OF BULK AT MOST 1048576: true; the input reads as it did. -/
def fnAllowedUptoRow : OpenClaim := { program := "ytgoelkgdjnhklaadoor", sum := "ef9bfc2ebdb82d06a73011b2916983a72e5048abd54a95ed2d995a03a3784e9a", func := "loop.example/g00884/laws.FnAllowed", spec := "fnAllowed", unfollowed := true, recurses := true, named := ["loop.example/g00884/impl.attitudeWords"], apart := false, laid := [("loop.example/g00884/impl.attitudeWords", laid_loop_example_g00884_impl_attitudeWords)], narrowed := true }
def FnAllowedUptoSaid : Prop := fnAllowedUptoRow.holds Tryd.pinned (OpenSpec.upto fnAllowedSpec)

/-- 'laws.FnExactSortArms', WHERE WHAT IT READS IS OF BULK AT MOST 1048576: true; the input reads as it did. -/
def fnExactSortArmsUptoRow : OpenClaim := { program := "ytgoelkgdjnhklaadoor", sum := "ef9bfc2ebdb82d06a73011b2916983a72e5048abd54a95ed2d995a03a3784e9a", func := "loop.example/g00884/laws.FnExactSortArms", spec := "fnExactSortArms", inPlace := ["internal/abi.NoEscape", "internal/bytealg.MakeNoZero", "internal/bytealg.abigen_runtime_cmpstring"], unfollowed := true, recurses := true, named := ["loop.example/g00884/impl.attitudeWords", "loop.example/g00884/impl.divisionWords", "loop.example/g00884/impl.lineWords", "loop.example/g00884/impl.tinctureWords", "loop.example/g00884/impl.ordinaryWords", "loop.example/g00884/impl.kindWords", "loop.example/g00884/impl.countWords"], apart := false, laid := [("loop.example/g00884/impl.tinctureWords", laid_loop_example_g00884_impl_tinctureWords), ("loop.example/g00884/impl.divisionWords", laid_loop_example_g00884_impl_divisionWords), ("loop.example/g00884/impl.lineWords", laid_loop_example_g00884_impl_lineWords), ("loop.example/g00884/impl.countWords", laid_loop_example_g00884_impl_countWords), ("loop.example/g00884/impl.kindWords", laid_loop_example_g00884_impl_kindWords), ("loop.example/g00884/impl.attitudeWords", laid_loop_example_g00884_impl_attitudeWords), ("loop.example/g00884/impl.ordinaryWords", laid_loop_example_g00884_impl_ordinaryWords)], narrowed := true }
def FnExactSortArmsUptoSaid : Prop := fnExactSortArmsUptoRow.holds Tryd.pinned (OpenSpec.upto fnExactSortArmsSpec)

/-- 'laws.FnExactRuleFindings', WHERE WHAT IT READS IS OF BULK AT MOST 1048576: true; the input reads as it did. -/
def fnExactRuleFindingsUptoRow : OpenClaim := { program := "ytgoelkgdjnhklaadoor", sum := "ef9bfc2ebdb82d06a73011b2916983a72e5048abd54a95ed2d995a03a3784e9a", func := "loop.example/g00884/laws.FnExactRuleFindings", spec := "fnExactRuleFindings", named := ["loop.example/g00884/impl.attitudeWords"], apart := false, laid := [("loop.example/g00884/impl.attitudeWords", laid_loop_example_g00884_impl_attitudeWords)], narrowed := true }
def FnExactRuleFindingsUptoSaid : Prop := fnExactRuleFindingsUptoRow.holds Tryd.pinned (OpenSpec.upto fnExactRuleFindingsSpec)

/-- 'laws.FnExactKeepsRules', WHERE WHAT IT READS IS OF BULK AT MOST 1048576: true; the input reads as it did. -/
def fnExactKeepsRulesUptoRow : OpenClaim := { program := "ytgoelkgdjnhklaadoor", sum := "ef9bfc2ebdb82d06a73011b2916983a72e5048abd54a95ed2d995a03a3784e9a", func := "loop.example/g00884/laws.FnExactKeepsRules", spec := "fnExactKeepsRules", named := ["loop.example/g00884/impl.attitudeWords"], apart := false, laid := [("loop.example/g00884/impl.attitudeWords", laid_loop_example_g00884_impl_attitudeWords)], narrowed := true }
def FnExactKeepsRulesUptoSaid : Prop := fnExactKeepsRulesUptoRow.holds Tryd.pinned (OpenSpec.upto fnExactKeepsRulesSpec)

/-- 'laws.FnExactLenientFindings', WHERE WHAT IT READS IS OF BULK AT MOST 1048576: true; the input reads as it did. -/
def fnExactLenientFindingsUptoRow : OpenClaim := { program := "ytgoelkgdjnhklaadoor", sum := "ef9bfc2ebdb82d06a73011b2916983a72e5048abd54a95ed2d995a03a3784e9a", func := "loop.example/g00884/laws.FnExactLenientFindings", spec := "fnExactLenientFindings", unfollowed := true, recurses := true, named := ["loop.example/g00884/impl.attitudeWords"], apart := false, laid := [("loop.example/g00884/impl.attitudeWords", laid_loop_example_g00884_impl_attitudeWords)], narrowed := true }
def FnExactLenientFindingsUptoSaid : Prop := fnExactLenientFindingsUptoRow.holds Tryd.pinned (OpenSpec.upto fnExactLenientFindingsSpec)

/-- 'laws.FnExactFindingText', WHERE WHAT IT READS IS OF BULK AT MOST 1048576: true; the input reads as it did. -/
def fnExactFindingTextUptoRow : OpenClaim := { program := "ytgoelkgdjnhklaadoor", sum := "ef9bfc2ebdb82d06a73011b2916983a72e5048abd54a95ed2d995a03a3784e9a", func := "loop.example/g00884/laws.FnExactFindingText", spec := "fnExactFindingText", named := ["loop.example/g00884/impl.tinctureWords", "loop.example/g00884/impl.findingStarts"], apart := false, laid := [("loop.example/g00884/impl.tinctureWords", laid_loop_example_g00884_impl_tinctureWords), ("loop.example/g00884/impl.findingStarts", laid_loop_example_g00884_impl_findingStarts)], narrowed := true }
def FnExactFindingTextUptoSaid : Prop := fnExactFindingTextUptoRow.holds Tryd.pinned (OpenSpec.upto fnExactFindingTextSpec)

/-- 'laws.FnExactParseFinding', WHERE WHAT IT READS IS OF BULK AT MOST 1048576: true; the input reads as it did. -/
def fnExactParseFindingUptoRow : OpenClaim := { program := "ytgoelkgdjnhklaadoor", sum := "ef9bfc2ebdb82d06a73011b2916983a72e5048abd54a95ed2d995a03a3784e9a", func := "loop.example/g00884/laws.FnExactParseFinding", spec := "fnExactParseFinding", inPlace := ["internal/bytealg.IndexByteString", "internal/bytealg.IndexString"], named := ["loop.example/g00884/impl.findingStarts", "internal/bytealg.MaxLen", "loop.example/g00884/impl.tinctureWords"], apart := false, laid := [("loop.example/g00884/impl.tinctureWords", laid_loop_example_g00884_impl_tinctureWords), ("loop.example/g00884/impl.findingStarts", laid_loop_example_g00884_impl_findingStarts)], narrowed := true }
def FnExactParseFindingUptoSaid : Prop := fnExactParseFindingUptoRow.holds Tryd.pinned (OpenSpec.upto fnExactParseFindingSpec)

/-- 'laws.FnExactAllowedAt', WHERE WHAT IT READS IS OF BULK AT MOST 1048576: true; the input reads as it did. -/
def fnExactAllowedAtUptoRow : OpenClaim := { program := "ytgoelkgdjnhklaadoor", sum := "ef9bfc2ebdb82d06a73011b2916983a72e5048abd54a95ed2d995a03a3784e9a", func := "loop.example/g00884/laws.FnExactAllowedAt", spec := "fnExactAllowedAt", named := ["loop.example/g00884/impl.attitudeWords"], apart := false, laid := [("loop.example/g00884/impl.attitudeWords", laid_loop_example_g00884_impl_attitudeWords)], narrowed := true }
def FnExactAllowedAtUptoSaid : Prop := fnExactAllowedAtUptoRow.holds Tryd.pinned (OpenSpec.upto fnExactAllowedAtSpec)

/-- 'laws.FnExactRepairArms', WHERE WHAT IT READS IS OF BULK AT MOST 1048576: true; the input reads as it did. -/
def fnExactRepairArmsUptoRow : OpenClaim := { program := "ytgoelkgdjnhklaadoor", sum := "ef9bfc2ebdb82d06a73011b2916983a72e5048abd54a95ed2d995a03a3784e9a", func := "loop.example/g00884/laws.FnExactRepairArms", spec := "fnExactRepairArms", unfollowed := true, recurses := true, named := ["loop.example/g00884/impl.attitudeWords"], apart := false, laid := [("loop.example/g00884/impl.attitudeWords", laid_loop_example_g00884_impl_attitudeWords)], narrowed := true }
def FnExactRepairArmsUptoSaid : Prop := fnExactRepairArmsUptoRow.holds Tryd.pinned (OpenSpec.upto fnExactRepairArmsSpec)

end Rows
end Go.Proofs.YtgoelkgdjnhklaaDoor
