/-
  NARROWER THAN 'FOR EVERY INPUT', by the rows' own cells (each row's printed sentence says how): FnTexts: laid.
  DERIVED. THE GIVEN ROWS OF THIS SEAT. 1 by the template 'for every input the law returns true; each argument reads behind the call as it read before'; 0 by the template 'total and deterministic' (their statements: YtgeidnnjljpdkaaGreatDoorTotals.lean).
  GIVEN WITH THE SEED: the statements are not yours to turn. If you find one false, say at which input.
  Laid BY PROGRAM, IN A SANDBOX (cutbox-rows.mjs): the forced cells as the released guide's own fill.sh prints them over the translation 099cdc33a538a140… (all of the seat's roots in one cut). By AI agents, Wed Nov 11 2026. No macro, syntax, notation, axiom, sorry.
-/
import Derived.Test.YtgeidnnjljpdkaaGreatDoorChecked
import GoSem.PinnedTables
import GoSem.Claim
import GoSem.ClaimJoined
import GoSem.ClaimMapViews
import Derived.JoinedTies
import Derived.KernelRfl
namespace Go.Proofs.YtgeidnnjljpdkaaGreatDoor
/- THE CELL 'sum', in the pinned program and in every row, IS THE sha256 OF THE DUMP (.gsa) THAT YtgeidnnjljpdkaaGreatDoorProg.lean LOADS. Nothing in Lean hashes anything: it is a label: what it is worth is what the hold of that sum in a sandbox is worth. -/
noncomputable def Tryz.pinned : Pinned := { name := "ytgeidnnjljpdkaagreatdoor", sum := "099cdc33a538a14079794b07e579bcc461b0982a7b9fb374b4370dea0d1f4c45", checked := Tryz.checked }
namespace Rows
def none {H : Type} : Left H := { results := [], args := [] }

/- WHAT THE LISTED PACKAGE-LEVEL VARIABLES READ AS WHEN THE CALL BEGINS. Each datum BY PROGRAM (the guide's laid-datum.mjs) off the statement by which the dump's own 'gosem.cut.vars' lays the variable. In a bare row this is a premise. The card (YtgeidnnjljpdkaaGreatDoorCards.lean) ties it to the program's text. -/
def laid_unicode_utf8_acceptRanges {H : Type} : DataW H := .agg [.agg [.lit (.int .u8 128), .lit (.int .u8 191)], .agg [.lit (.int .u8 160), .lit (.int .u8 191)], .agg [.lit (.int .u8 128), .lit (.int .u8 159)], .agg [.lit (.int .u8 144), .lit (.int .u8 191)], .agg [.lit (.int .u8 128), .lit (.int .u8 143)], .agg [.lit (.int .u8 0), .lit (.int .u8 0)], .agg [.lit (.int .u8 0), .lit (.int .u8 0)], .agg [.lit (.int .u8 0), .lit (.int .u8 0)], .agg [.lit (.int .u8 0), .lit (.int .u8 0)], .agg [.lit (.int .u8 0), .lit (.int .u8 0)], .agg [.lit (.int .u8 0), .lit (.int .u8 0)], .agg [.lit (.int .u8 0), .lit (.int .u8 0)], .agg [.lit (.int .u8 0), .lit (.int .u8 0)], .agg [.lit (.int .u8 0), .lit (.int .u8 0)], .agg [.lit (.int .u8 0), .lit (.int .u8 0)], .agg [.lit (.int .u8 0), .lit (.int .u8 0)]]
def laid_loop_example_g00884_impl_tinctureWords {H : Type} : DataW H := .agg [.lit (.string [103, 111, 108, 100]), .lit (.string [115, 105, 108, 118, 101, 114]), .lit (.string [114, 101, 100]), .lit (.string [98, 108, 117, 101]), .lit (.string [98, 108, 97, 99, 107]), .lit (.string [103, 114, 101, 101, 110]), .lit (.string [112, 117, 114, 112, 108, 101]), .lit (.string [101, 114, 109, 105, 110, 101]), .lit (.string [118, 97, 105, 114])]
def laid_loop_example_g00884_impl_divisionWords {H : Type} : DataW H := .agg [.lit (.string [112, 101, 114, 32, 112, 97, 108, 101]), .lit (.string [112, 101, 114, 32, 102, 101, 115, 115]), .lit (.string [112, 101, 114, 32, 98, 101, 110, 100]), .lit (.string [113, 117, 97, 114, 116, 101, 114, 108, 121]), .lit (.string [112, 101, 114, 32, 115, 97, 108, 116, 105, 114, 101]), .lit (.string [112, 97, 108, 121]), .lit (.string [98, 97, 114, 114, 121])]
def laid_loop_example_g00884_impl_lineWords {H : Type} : DataW H := .agg [.lit (.string [101, 110, 103, 114, 97, 105, 108, 101, 100]), .lit (.string [119, 97, 118, 121]), .lit (.string [101, 109, 98, 97, 116, 116, 108, 101, 100]), .lit (.string [105, 110, 100, 101, 110, 116, 101, 100])]
def laid_loop_example_g00884_impl_countWords {H : Type} : DataW H := .agg [.lit (.string [97]), .lit (.string [116, 119, 111]), .lit (.string [116, 104, 114, 101, 101]), .lit (.string [102, 111, 117, 114]), .lit (.string [102, 105, 118, 101]), .lit (.string [115, 105, 120])]
def laid_loop_example_g00884_impl_kindWords {H : Type} : DataW H := .agg [.lit (.string [108, 105, 111, 110]), .lit (.string [101, 97, 103, 108, 101]), .lit (.string [102, 105, 115, 104]), .lit (.string [114, 111, 115, 101]), .lit (.string [115, 116, 97, 114]), .lit (.string [116, 111, 119, 101, 114]), .lit (.string [107, 101, 121]), .lit (.string [115, 119, 111, 114, 100])]
def laid_loop_example_g00884_impl_attitudeWords {H : Type} : DataW H := .agg [.slice [.lit (.string [114, 97, 109, 112, 97, 110, 116]), .lit (.string [112, 97, 115, 115, 97, 110, 116])] [], .slice [.lit (.string [100, 105, 115, 112, 108, 97, 121, 101, 100]), .lit (.string [114, 105, 115, 105, 110, 103])] [], .slice [.lit (.string [115, 119, 105, 109, 109, 105, 110, 103]), .lit (.string [117, 112, 114, 105, 103, 104, 116])] [], .nil, .nil, .nil, .nil, .nil]
def laid_loop_example_g00884_impl_ordinaryWords {H : Type} : DataW H := .agg [.lit (.string [112, 97, 108, 101]), .lit (.string [102, 101, 115, 115]), .lit (.string [98, 101, 110, 100]), .lit (.string [99, 104, 101, 118, 114, 111, 110]), .lit (.string [99, 114, 111, 115, 115]), .lit (.string [115, 97, 108, 116, 105, 114, 101]), .lit (.string [99, 104, 105, 101, 102])]
/-- One of Go's own tables, pinned by name: the form's constant. -/
def laid_unicode_utf8_first : DataW Unit := Go.Pinned.utf8First

/-- 'laws.FnTexts': WHATEVER THE INPUT: true; the input reads as it did. -/
def fnTextsSpec : ChangeSpec := { name := "fnTexts", vars := ["loop.example/g00884/impl.attitudeWords", "loop.example/g00884/impl.divisionWords", "loop.example/g00884/impl.lineWords", "loop.example/g00884/impl.tinctureWords", "loop.example/g00884/impl.ordinaryWords", "loop.example/g00884/impl.kindWords", "loop.example/g00884/impl.countWords"], fn := fun _ => fun
  | [d, g1, g2, g3, g4, g5, g6, g7] => { results := [.lit (.bool true)], args := [d], vars := [g1, g2, g3, g4, g5, g6, g7] }
  | _ => none }
def fnTextsRow : OpenClaim := { program := "ytgeidnnjljpdkaagreatdoor", sum := "099cdc33a538a14079794b07e579bcc461b0982a7b9fb374b4370dea0d1f4c45", func := "loop.example/g00884/laws.FnTexts", spec := "fnTexts", inPlace := ["internal/abi.NoEscape", "internal/bytealg.MakeNoZero", "internal/bytealg.IndexByteString", "internal/bytealg.IndexString", "internal/bytealg.CountString"], unfollowed := true, recurses := true, named := ["loop.example/g00884/impl.attitudeWords", "loop.example/g00884/impl.divisionWords", "loop.example/g00884/impl.lineWords", "loop.example/g00884/impl.tinctureWords", "loop.example/g00884/impl.ordinaryWords", "loop.example/g00884/impl.kindWords", "loop.example/g00884/impl.countWords", "internal/bytealg.MaxLen", "unicode/utf8.first", "unicode/utf8.acceptRanges"], apart := false, laid := [("unicode/utf8.acceptRanges", laid_unicode_utf8_acceptRanges), ("loop.example/g00884/impl.tinctureWords", laid_loop_example_g00884_impl_tinctureWords), ("loop.example/g00884/impl.divisionWords", laid_loop_example_g00884_impl_divisionWords), ("loop.example/g00884/impl.lineWords", laid_loop_example_g00884_impl_lineWords), ("loop.example/g00884/impl.countWords", laid_loop_example_g00884_impl_countWords), ("loop.example/g00884/impl.kindWords", laid_loop_example_g00884_impl_kindWords), ("loop.example/g00884/impl.attitudeWords", laid_loop_example_g00884_impl_attitudeWords), ("loop.example/g00884/impl.ordinaryWords", laid_loop_example_g00884_impl_ordinaryWords), ("unicode/utf8.first", laid_unicode_utf8_first)] }
def FnTextsSaid : Prop := fnTextsRow.holds Tryz.pinned (OpenSpec.ofChange fnTextsSpec)

/-- ITS FALSE NEIGHBOUR: 'it returns false'. Refute it at one input. -/
def fnTextsWrong : ChangeSpec := { name := "fnTexts", vars := ["loop.example/g00884/impl.attitudeWords", "loop.example/g00884/impl.divisionWords", "loop.example/g00884/impl.lineWords", "loop.example/g00884/impl.tinctureWords", "loop.example/g00884/impl.ordinaryWords", "loop.example/g00884/impl.kindWords", "loop.example/g00884/impl.countWords"], fn := fun _ => fun
  | [d, g1, g2, g3, g4, g5, g6, g7] => { results := [.lit (.bool false)], args := [d], vars := [g1, g2, g3, g4, g5, g6, g7] }
  | _ => none }
def FnTextsWrongFalsely : Prop := fnTextsRow.holds Tryz.pinned (OpenSpec.ofChange fnTextsWrong)

/- THE SECOND FORM. 'bulk': how many values and letters a reading holds, each counted each time it is reached (what is shared counts as often as it is met; a slice's spare places count too). A statement '..UptoSaid' is the law's where the arguments, and the package variables that the reading takes, are together of bulk at most 1048576: NARROWER than '..Said'. Prove '..Said' where nothing that the law and all that it calls make is longer than what came in: it says more and counts as full. Else prove '..UptoSaid'. A law counts once. -/
mutual
def uptoBulk {H : Type} : DataW H → Nat
  | .lit (.string bytes) => bytes.length + 1
  | .lit _ => 1
  | .nil => 1
  | .ptr d => uptoBulk d + 1
  | .slice elems spare => uptoBulkAll elems + uptoBulkAll spare + 1
  | .agg parts => uptoBulkAll parts + 1
  | .iface _ d => uptoBulk d + 1
  | .map entries => uptoBulkEntries entries + 1
  | .held _ => 1
def uptoBulkAll {H : Type} : List (DataW H) → Nat
  | [] => 0
  | d :: r => uptoBulk d + uptoBulkAll r
def uptoBulkEntries {H : Type} : List (Lit × DataW H) → Nat
  | [] => 0
  | x :: r => uptoBulkEntry x + uptoBulkEntries r
def uptoBulkEntry {H : Type} : Lit × DataW H → Nat
  | (.string bytes, d) => bytes.length + uptoBulk d + 1
  | (_, d) => uptoBulk d + 1
 end
def uptoSmall : (H : Type) → List (DataW H) → Bool := fun _ ds => decide (uptoBulkAll ds ≤ 1048576)
def OpenSpec.upto (s : _root_.Go.ChangeSpec) : _root_.Go.OpenSpec := { _root_.Go.OpenSpec.ofChange s with cond := some uptoSmall }

/-- 'laws.FnTexts', WHERE WHAT IT READS IS OF BULK AT MOST 1048576: true; the input reads as it did. -/
def fnTextsUptoRow : OpenClaim := { program := "ytgeidnnjljpdkaagreatdoor", sum := "099cdc33a538a14079794b07e579bcc461b0982a7b9fb374b4370dea0d1f4c45", func := "loop.example/g00884/laws.FnTexts", spec := "fnTexts", inPlace := ["internal/abi.NoEscape", "internal/bytealg.MakeNoZero", "internal/bytealg.IndexByteString", "internal/bytealg.IndexString", "internal/bytealg.CountString"], unfollowed := true, recurses := true, named := ["loop.example/g00884/impl.attitudeWords", "loop.example/g00884/impl.divisionWords", "loop.example/g00884/impl.lineWords", "loop.example/g00884/impl.tinctureWords", "loop.example/g00884/impl.ordinaryWords", "loop.example/g00884/impl.kindWords", "loop.example/g00884/impl.countWords", "internal/bytealg.MaxLen", "unicode/utf8.first", "unicode/utf8.acceptRanges"], apart := false, laid := [("unicode/utf8.acceptRanges", laid_unicode_utf8_acceptRanges), ("loop.example/g00884/impl.tinctureWords", laid_loop_example_g00884_impl_tinctureWords), ("loop.example/g00884/impl.divisionWords", laid_loop_example_g00884_impl_divisionWords), ("loop.example/g00884/impl.lineWords", laid_loop_example_g00884_impl_lineWords), ("loop.example/g00884/impl.countWords", laid_loop_example_g00884_impl_countWords), ("loop.example/g00884/impl.kindWords", laid_loop_example_g00884_impl_kindWords), ("loop.example/g00884/impl.attitudeWords", laid_loop_example_g00884_impl_attitudeWords), ("loop.example/g00884/impl.ordinaryWords", laid_loop_example_g00884_impl_ordinaryWords), ("unicode/utf8.first", laid_unicode_utf8_first)], narrowed := true }
def FnTextsUptoSaid : Prop := fnTextsUptoRow.holds Tryz.pinned (OpenSpec.upto fnTextsSpec)

end Rows
end Go.Proofs.YtgeidnnjljpdkaaGreatDoor
