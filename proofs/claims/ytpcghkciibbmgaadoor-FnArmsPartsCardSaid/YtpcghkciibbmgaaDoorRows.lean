/-
  NARROWER THAN 'FOR EVERY INPUT', by the rows' own cells (each row's printed sentence says how): FnArms: laid · FnArmsParts: laid.
  DERIVED. THE GIVEN ROWS OF THIS SEAT. 2 by the template 'for every input the law returns true; each argument reads behind the call as it read before'; 0 by the template 'total and deterministic' (their statements: YtpcghkciibbmgaaDoorTotals.lean).
  GIVEN WITH THE SEED: the statements are not yours to turn. If you find one false, say at which input.
  Laid BY PROGRAM, IN A SANDBOX (cutbox-rows.mjs): the forced cells as the released guide's own fill.sh prints them over the translation 4b1a23992aaedc08… (all of the seat's roots in one cut). By AI agents, Wed Nov 11 2026. No macro, syntax, notation, axiom, sorry.
-/
import Derived.Test.YtpcghkciibbmgaaDoorChecked
import GoSem.Claim
import GoSem.ClaimJoined
import GoSem.ClaimMapViews
import Derived.JoinedTies
import Derived.KernelRfl
namespace Go.Proofs.YtpcghkciibbmgaaDoor
/- THE CELL 'sum', in the pinned program and in every row, IS THE sha256 OF THE DUMP (.gsa) THAT YtpcghkciibbmgaaDoorProg.lean LOADS. Nothing in Lean hashes anything: it is a label: what it is worth is what the hold of that sum in a sandbox is worth. -/
noncomputable def Tryd.pinned : Pinned := { name := "ytpcghkciibbmgaadoor", sum := "4b1a23992aaedc08fc0e5643bdb0b3a64cf11a8b6a540f694d796bfd7bb83e5d", checked := Tryd.checked }
namespace Rows
def none {H : Type} : Left H := { results := [], args := [] }

/- WHAT THE LISTED PACKAGE-LEVEL VARIABLES READ AS WHEN THE CALL BEGINS. Each datum BY PROGRAM (the guide's laid-datum.mjs) off the statement by which the dump's own 'gosem.cut.vars' lays the variable. In a bare row this is a premise. The card (YtpcghkciibbmgaaDoorCards.lean) ties it to the program's text. -/
def laid_loop_example_g00884_impl_attitudeWords {H : Type} : DataW H := .agg [.slice [.lit (.string [114, 97, 109, 112, 97, 110, 116]), .lit (.string [112, 97, 115, 115, 97, 110, 116])] [], .slice [.lit (.string [100, 105, 115, 112, 108, 97, 121, 101, 100]), .lit (.string [114, 105, 115, 105, 110, 103])] [], .slice [.lit (.string [115, 119, 105, 109, 109, 105, 110, 103]), .lit (.string [117, 112, 114, 105, 103, 104, 116])] [], .nil, .nil, .nil, .nil, .nil]

/-- 'laws.FnArms': WHATEVER THE INPUT: true; the input reads as it did. -/
def fnArmsSpec : ChangeSpec := { name := "fnArms", vars := ["loop.example/g00884/impl.attitudeWords"], fn := fun _ => fun
  | [d, g1] => { results := [.lit (.bool true)], args := [d], vars := [g1] }
  | _ => none }
def fnArmsRow : OpenClaim := { program := "ytpcghkciibbmgaadoor", sum := "4b1a23992aaedc08fc0e5643bdb0b3a64cf11a8b6a540f694d796bfd7bb83e5d", func := "loop.example/g00884/laws.FnArms", spec := "fnArms", named := ["loop.example/g00884/impl.attitudeWords"], apart := false, laid := [("loop.example/g00884/impl.attitudeWords", laid_loop_example_g00884_impl_attitudeWords)] }
def FnArmsSaid : Prop := fnArmsRow.holds Tryd.pinned (OpenSpec.ofChange fnArmsSpec)

/-- ITS FALSE NEIGHBOUR: 'it returns false'. Refute it at one input. -/
def fnArmsWrong : ChangeSpec := { name := "fnArms", vars := ["loop.example/g00884/impl.attitudeWords"], fn := fun _ => fun
  | [d, g1] => { results := [.lit (.bool false)], args := [d], vars := [g1] }
  | _ => none }
def FnArmsWrongFalsely : Prop := fnArmsRow.holds Tryd.pinned (OpenSpec.ofChange fnArmsWrong)

/-- 'laws.FnArmsParts': WHATEVER THE INPUT: true; the input reads as it did. -/
def fnArmsPartsSpec : ChangeSpec := { name := "fnArmsParts", vars := ["loop.example/g00884/impl.attitudeWords"], fn := fun _ => fun
  | [d, g1] => { results := [.lit (.bool true)], args := [d], vars := [g1] }
  | _ => none }
def fnArmsPartsRow : OpenClaim := { program := "ytpcghkciibbmgaadoor", sum := "4b1a23992aaedc08fc0e5643bdb0b3a64cf11a8b6a540f694d796bfd7bb83e5d", func := "loop.example/g00884/laws.FnArmsParts", spec := "fnArmsParts", named := ["loop.example/g00884/impl.attitudeWords"], apart := false, laid := [("loop.example/g00884/impl.attitudeWords", laid_loop_example_g00884_impl_attitudeWords)] }
def FnArmsPartsSaid : Prop := fnArmsPartsRow.holds Tryd.pinned (OpenSpec.ofChange fnArmsPartsSpec)

/-- ITS FALSE NEIGHBOUR: 'it returns false'. Refute it at one input. -/
def fnArmsPartsWrong : ChangeSpec := { name := "fnArmsParts", vars := ["loop.example/g00884/impl.attitudeWords"], fn := fun _ => fun
  | [d, g1] => { results := [.lit (.bool false)], args := [d], vars := [g1] }
  | _ => none }
def FnArmsPartsWrongFalsely : Prop := fnArmsPartsRow.holds Tryd.pinned (OpenSpec.ofChange fnArmsPartsWrong)

/- THE SECOND FORM. 'bulk': how many values and letters a reading holds, each counted each time it is reached (what is shared counts as often as it is met; a slice's spare places count too). A statement '..UptoSaid' is the law's where the arguments, and the package variables that the reading takes, are together of bulk at most 1048576: NARROWER than '..Said'. Prove '..Said' where nothing that the law and all that it calls make is longer than what came in: it says more and counts as full. Else prove '..UptoSaid'. A law counts once. -/
mutual
def uptoBulk {H : Type} : DataW H → Nat
  | .lit (.string bytes) => bytes.length + 1
  | .lit _ => 1
  | .nil => 1
  | .ptr d => uptoBulk d + 1
  | .slice elems spare => uptoBulkAll elems + uptoBulkAll spare + 1
  | .agg parts => uptoBulkAll parts + 1
  | .iface _ d => uptoBulk d + 1
  | .map entries => uptoBulkEntries entries + 1
  | .held _ => 1
def uptoBulkAll {H : Type} : List (DataW H) → Nat
  | [] => 0
  | d :: r => uptoBulk d + uptoBulkAll r
def uptoBulkEntries {H : Type} : List (Lit × DataW H) → Nat
  | [] => 0
  | x :: r => uptoBulkEntry x + uptoBulkEntries r
def uptoBulkEntry {H : Type} : Lit × DataW H → Nat
  | (.string bytes, d) => bytes.length + uptoBulk d + 1
  | (_, d) => uptoBulk d + 1
 end
def uptoSmall : (H : Type) → List (DataW H) → Bool := fun _ ds => decide (uptoBulkAll ds ≤ 1048576)
def OpenSpec.upto (s : _root_.Go.ChangeSpec) : _root_.Go.OpenSpec := { _root_.Go.OpenSpec.ofChange s with cond := some uptoSmall }

/-- 'laws.FnArms', WHERE WHAT IT READS IS OF BULK AT MOST 1048576: true; the input reads as it did. -/
def fnArmsUptoRow : OpenClaim := { program := "ytpcghkciibbmgaadoor", sum := "4b1a23992aaedc08fc0e5643bdb0b3a64cf11a8b6a540f694d796bfd7bb83e5d", func := "loop.example/g00884/laws.FnArms", spec := "fnArms", named := ["loop.example/g00884/impl.attitudeWords"], apart := false, laid := [("loop.example/g00884/impl.attitudeWords", laid_loop_example_g00884_impl_attitudeWords)], narrowed := true }
def FnArmsUptoSaid : Prop := fnArmsUptoRow.holds Tryd.pinned (OpenSpec.upto fnArmsSpec)

/-- 'laws.FnArmsParts', WHERE WHAT IT READS IS OF BULK AT MOST 1048576: true; the input reads as it did. -/
def fnArmsPartsUptoRow : OpenClaim := { program := "ytpcghkciibbmgaadoor", sum := "4b1a23992aaedc08fc0e5643bdb0b3a64cf11a8b6a540f694d796bfd7bb83e5d", func := "loop.example/g00884/laws.FnArmsParts", spec := "fnArmsParts", named := ["loop.example/g00884/impl.attitudeWords"], apart := false, laid := [("loop.example/g00884/impl.attitudeWords", laid_loop_example_g00884_impl_attitudeWords)], narrowed := true }
def FnArmsPartsUptoSaid : Prop := fnArmsPartsUptoRow.holds Tryd.pinned (OpenSpec.upto fnArmsPartsSpec)

end Rows
end Go.Proofs.YtpcghkciibbmgaaDoor
