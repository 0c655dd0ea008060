/-
  NARROWER THAN 'FOR EVERY INPUT', by the rows' own cells (each row's printed sentence says how): FnAllowed: laid · FnExactRepairArms: laid · FnRules: laid.
  DERIVED. THE GIVEN ROWS OF THIS SEAT. 3 by the template 'for every input the law returns true; each argument reads behind the call as it read before'; 0 by the template 'total and deterministic' (their statements: YtmmbhglmafnfpabDoorTotals.lean).
  GIVEN WITH THE SEED: the statements are not yours to turn. If you find one false, say at which input.
  Laid BY PROGRAM, IN A SANDBOX (cutbox-rows.mjs): the forced cells as the released guide's own fill.sh prints them over the translation 220846ee02429a01… (all of the seat's roots in one cut). By AI agents, Wed Nov 11 2026. No macro, syntax, notation, axiom, sorry.
-/
import Derived.Test.YtmmbhglmafnfpabDoorChecked
import GoSem.Claim
import GoSem.ClaimJoined
import GoSem.ClaimMapViews
import Derived.JoinedTies
import Derived.KernelRfl
namespace Go.Proofs.YtmmbhglmafnfpabDoor
/- THE CELL 'sum', in the pinned program and in every row, IS THE sha256 OF THE DUMP (.gsa) THAT YtmmbhglmafnfpabDoorProg.lean LOADS. Nothing in Lean hashes anything: it is a label: what it is worth is what the hold of that sum in a sandbox is worth. -/
noncomputable def Tryd.pinned : Pinned := { name := "ytmmbhglmafnfpabdoor", sum := "220846ee02429a010b626eeb6b34990794d27e09dda68a047f805bea49705c23", checked := Tryd.checked }
namespace Rows
def none {H : Type} : Left H := { results := [], args := [] }

/- WHAT THE LISTED PACKAGE-LEVEL VARIABLES READ AS WHEN THE CALL BEGINS. Each datum BY PROGRAM (the guide's laid-datum.mjs) off the statement by which the dump's own 'gosem.cut.vars' lays the variable. In a bare row this is a premise. The card (YtmmbhglmafnfpabDoorCards.lean) ties it to the program's text. -/
def laid_loop_example_g00884_impl_attitudeWords {H : Type} : DataW H := .agg [.slice [.lit (.string [114, 97, 109, 112, 97, 110, 116]), .lit (.string [112, 97, 115, 115, 97, 110, 116])] [], .slice [.lit (.string [100, 105, 115, 112, 108, 97, 121, 101, 100]), .lit (.string [114, 105, 115, 105, 110, 103])] [], .slice [.lit (.string [115, 119, 105, 109, 109, 105, 110, 103]), .lit (.string [117, 112, 114, 105, 103, 104, 116])] [], .nil, .nil, .nil, .nil, .nil]
def laid_loop_example_g00884_impl_tinctureWords {H : Type} : DataW H := .agg [.lit (.string [103, 111, 108, 100]), .lit (.string [115, 105, 108, 118, 101, 114]), .lit (.string [114, 101, 100]), .lit (.string [98, 108, 117, 101]), .lit (.string [98, 108, 97, 99, 107]), .lit (.string [103, 114, 101, 101, 110]), .lit (.string [112, 117, 114, 112, 108, 101]), .lit (.string [101, 114, 109, 105, 110, 101]), .lit (.string [118, 97, 105, 114])]
def laid_loop_example_g00884_impl_findingStarts {H : Type} : DataW H := .agg [.lit (.string [84, 104, 101, 32, 111, 114, 100, 105, 110, 97, 114, 121, 32, 105, 115]), .lit (.string [84, 104, 101, 32, 99, 104, 97, 114, 103, 101, 115, 32, 111, 110, 32, 116, 104, 101, 32, 111, 114, 100, 105, 110, 97, 114, 121, 32, 97, 114, 101]), .lit (.string [84, 104, 101, 32, 99, 104, 97, 114, 103, 101, 115, 32, 97, 114, 111, 117, 110, 100, 32, 105, 116, 32, 97, 114, 101])]

/-- 'laws.FnAllowed': WHATEVER THE INPUT: true; the input reads as it did. -/
def fnAllowedSpec : ChangeSpec := { name := "fnAllowed", vars := ["loop.example/g00884/impl.attitudeWords"], fn := fun _ => fun
  | [d, g1] => { results := [.lit (.bool true)], args := [d], vars := [g1] }
  | _ => none }
def fnAllowedRow : OpenClaim := { program := "ytmmbhglmafnfpabdoor", sum := "220846ee02429a010b626eeb6b34990794d27e09dda68a047f805bea49705c23", func := "loop.example/g00884/laws.FnAllowed", spec := "fnAllowed", unfollowed := true, recurses := true, named := ["loop.example/g00884/impl.attitudeWords"], apart := false, laid := [("loop.example/g00884/impl.attitudeWords", laid_loop_example_g00884_impl_attitudeWords)] }
def FnAllowedSaid : Prop := fnAllowedRow.holds Tryd.pinned (OpenSpec.ofChange fnAllowedSpec)

/-- ITS FALSE NEIGHBOUR: 'it returns false'. Refute it at one input. -/
def fnAllowedWrong : ChangeSpec := { name := "fnAllowed", vars := ["loop.example/g00884/impl.attitudeWords"], fn := fun _ => fun
  | [d, g1] => { results := [.lit (.bool false)], args := [d], vars := [g1] }
  | _ => none }
def FnAllowedWrongFalsely : Prop := fnAllowedRow.holds Tryd.pinned (OpenSpec.ofChange fnAllowedWrong)

/-- 'laws.FnExactRepairArms': WHATEVER THE INPUT: true; the input reads as it did. -/
def fnExactRepairArmsSpec : ChangeSpec := { name := "fnExactRepairArms", vars := ["loop.example/g00884/impl.attitudeWords"], fn := fun _ => fun
  | [d, g1] => { results := [.lit (.bool true)], args := [d], vars := [g1] }
  | _ => none }
def fnExactRepairArmsRow : OpenClaim := { program := "ytmmbhglmafnfpabdoor", sum := "220846ee02429a010b626eeb6b34990794d27e09dda68a047f805bea49705c23", func := "loop.example/g00884/laws.FnExactRepairArms", spec := "fnExactRepairArms", unfollowed := true, recurses := true, named := ["loop.example/g00884/impl.attitudeWords"], apart := false, laid := [("loop.example/g00884/impl.attitudeWords", laid_loop_example_g00884_impl_attitudeWords)] }
def FnExactRepairArmsSaid : Prop := fnExactRepairArmsRow.holds Tryd.pinned (OpenSpec.ofChange fnExactRepairArmsSpec)

/-- ITS FALSE NEIGHBOUR: 'it returns false'. Refute it at one input. -/
def fnExactRepairArmsWrong : ChangeSpec := { name := "fnExactRepairArms", vars := ["loop.example/g00884/impl.attitudeWords"], fn := fun _ => fun
  | [d, g1] => { results := [.lit (.bool false)], args := [d], vars := [g1] }
  | _ => none }
def FnExactRepairArmsWrongFalsely : Prop := fnExactRepairArmsRow.holds Tryd.pinned (OpenSpec.ofChange fnExactRepairArmsWrong)

/-- 'laws.FnRules': WHATEVER THE INPUT: true; the input reads as it did. -/
def fnRulesSpec : ChangeSpec := { name := "fnRules", vars := ["loop.example/g00884/impl.attitudeWords", "loop.example/g00884/impl.tinctureWords", "loop.example/g00884/impl.findingStarts"], fn := fun _ => fun
  | [d, g1, g2, g3] => { results := [.lit (.bool true)], args := [d], vars := [g1, g2, g3] }
  | _ => none }
def fnRulesRow : OpenClaim := { program := "ytmmbhglmafnfpabdoor", sum := "220846ee02429a010b626eeb6b34990794d27e09dda68a047f805bea49705c23", func := "loop.example/g00884/laws.FnRules", spec := "fnRules", inPlace := ["internal/bytealg.IndexByteString", "internal/bytealg.IndexString"], unfollowed := true, recurses := true, named := ["loop.example/g00884/impl.attitudeWords", "loop.example/g00884/impl.tinctureWords", "loop.example/g00884/impl.findingStarts", "internal/bytealg.MaxLen"], apart := false, laid := [("loop.example/g00884/impl.tinctureWords", laid_loop_example_g00884_impl_tinctureWords), ("loop.example/g00884/impl.attitudeWords", laid_loop_example_g00884_impl_attitudeWords), ("loop.example/g00884/impl.findingStarts", laid_loop_example_g00884_impl_findingStarts)] }
def FnRulesSaid : Prop := fnRulesRow.holds Tryd.pinned (OpenSpec.ofChange fnRulesSpec)

/-- ITS FALSE NEIGHBOUR: 'it returns false'. Refute it at one input. -/
def fnRulesWrong : ChangeSpec := { name := "fnRules", vars := ["loop.example/g00884/impl.attitudeWords", "loop.example/g00884/impl.tinctureWords", "loop.example/g00884/impl.findingStarts"], fn := fun _ => fun
  | [d, g1, g2, g3] => { results := [.lit (.bool false)], args := [d], vars := [g1, g2, g3] }
  | _ => none }
def FnRulesWrongFalsely : Prop := fnRulesRow.holds Tryd.pinned (OpenSpec.ofChange fnRulesWrong)

/- THE SECOND FORM. 'bulk': how many values and letters a reading holds, each counted each time it is reached (what is shared counts as often as it is met; a slice's spare places count too). A statement '..UptoSaid' is the law's where the arguments, and the package variables that the reading takes, are together of bulk at most 1048576: NARROWER than '..Said'. Prove '..Said' where nothing that the law and all that it calls make is longer than what came in: it says more and counts as full. Else prove '..UptoSaid'. A law counts once. -/
mutual
def uptoBulk {H : Type} : DataW H → Nat
  | .lit (.string bytes) => bytes.length + 1
  | .lit _ => 1
  | .nil => 1
  | .ptr d => uptoBulk d + 1
  | .slice elems spare => uptoBulkAll elems + uptoBulkAll spare + 1
  | .agg parts => uptoBulkAll parts + 1
  | .iface _ d => uptoBulk d + 1
  | .map entries => uptoBulkEntries entries + 1
  | .held _ => 1
def uptoBulkAll {H : Type} : List (DataW H) → Nat
  | [] => 0
  | d :: r => uptoBulk d + uptoBulkAll r
def uptoBulkEntries {H : Type} : List (Lit × DataW H) → Nat
  | [] => 0
  | x :: r => uptoBulkEntry x + uptoBulkEntries r
def uptoBulkEntry {H : Type} : Lit × DataW H → Nat
  | (.string bytes, d) => bytes.length + uptoBulk d + 1
  | (_, d) => uptoBulk d + 1
 end
def uptoSmall : (H : Type) → List (DataW H) → Bool := fun _ ds => decide (uptoBulkAll ds ≤ 1048576)
def OpenSpec.upto (s : _root_.Go.ChangeSpec) : _root_.Go.OpenSpec := { _root_.Go.OpenSpec.ofChange s with cond := some uptoSmall }

/-- 'laws.FnAllowed', WHERE WHAT IT READS IS OF BULK AT MOST 1048576: true; the input reads as it did. -/
def fnAllowedUptoRow : OpenClaim := { program := "ytmmbhglmafnfpabdoor", sum := "220846ee02429a010b626eeb6b34990794d27e09dda68a047f805bea49705c23", func := "loop.example/g00884/laws.FnAllowed", spec := "fnAllowed", unfollowed := true, recurses := true, named := ["loop.example/g00884/impl.attitudeWords"], apart := false, laid := [("loop.example/g00884/impl.attitudeWords", laid_loop_example_g00884_impl_attitudeWords)], narrowed := true }
def FnAllowedUptoSaid : Prop := fnAllowedUptoRow.holds Tryd.pinned (OpenSpec.upto fnAllowedSpec)

/-- 'laws.FnExactRepairArms', WHERE WHAT IT READS IS OF BULK AT MOST 1048576: true; the input reads as it did. -/
def fnExactRepairArmsUptoRow : OpenClaim := { program := "ytmmbhglmafnfpabdoor", sum := "220846ee02429a010b626eeb6b34990794d27e09dda68a047f805bea49705c23", func := "loop.example/g00884/laws.FnExactRepairArms", spec := "fnExactRepairArms", unfollowed := true, recurses := true, named := ["loop.example/g00884/impl.attitudeWords"], apart := false, laid := [("loop.example/g00884/impl.attitudeWords", laid_loop_example_g00884_impl_attitudeWords)], narrowed := true }
def FnExactRepairArmsUptoSaid : Prop := fnExactRepairArmsUptoRow.holds Tryd.pinned (OpenSpec.upto fnExactRepairArmsSpec)

/-- 'laws.FnRules', WHERE WHAT IT READS IS OF BULK AT MOST 1048576: true; the input reads as it did. -/
def fnRulesUptoRow : OpenClaim := { program := "ytmmbhglmafnfpabdoor", sum := "220846ee02429a010b626eeb6b34990794d27e09dda68a047f805bea49705c23", func := "loop.example/g00884/laws.FnRules", spec := "fnRules", inPlace := ["internal/bytealg.IndexByteString", "internal/bytealg.IndexString"], unfollowed := true, recurses := true, named := ["loop.example/g00884/impl.attitudeWords", "loop.example/g00884/impl.tinctureWords", "loop.example/g00884/impl.findingStarts", "internal/bytealg.MaxLen"], apart := false, laid := [("loop.example/g00884/impl.tinctureWords", laid_loop_example_g00884_impl_tinctureWords), ("loop.example/g00884/impl.attitudeWords", laid_loop_example_g00884_impl_attitudeWords), ("loop.example/g00884/impl.findingStarts", laid_loop_example_g00884_impl_findingStarts)], narrowed := true }
def FnRulesUptoSaid : Prop := fnRulesUptoRow.holds Tryd.pinned (OpenSpec.upto fnRulesSpec)

end Rows
end Go.Proofs.YtmmbhglmafnfpabDoor
