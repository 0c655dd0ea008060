/-
  NARROWER THAN 'FOR EVERY INPUT', by the rows' own cells (each row's printed sentence says how): FnFields: laid · FnExactFieldText: laid · FnExactParseField: laid.
  DERIVED. THE GIVEN ROWS OF THIS SEAT. 3 by the template 'for every input the law returns true; each argument reads behind the call as it read before'; 0 by the template 'total and deterministic' (their statements: YtmogabnngphfgaaDoorTotals.lean).
  GIVEN WITH THE SEED: the statements are not yours to turn. If you find one false, say at which input.
  Laid BY PROGRAM, IN A SANDBOX (cutbox-rows.mjs): the forced cells as the released guide's own fill.sh prints them over the translation 13f8b871f74fa8d8… (all of the seat's roots in one cut). By AI agents, Wed Nov 11 2026. No macro, syntax, notation, axiom, sorry.
-/
import Derived.Test.YtmogabnngphfgaaDoorChecked
import GoSem.Claim
import GoSem.ClaimJoined
import GoSem.ClaimMapViews
import Derived.JoinedTies
import Derived.KernelRfl
namespace Go.Proofs.YtmogabnngphfgaaDoor
/- THE CELL 'sum', in the pinned program and in every row, IS THE sha256 OF THE DUMP (.gsa) THAT YtmogabnngphfgaaDoorProg.lean LOADS. Nothing in Lean hashes anything: it is a label: what it is worth is what the hold of that sum in a sandbox is worth. -/
noncomputable def Tryd.pinned : Pinned := { name := "ytmogabnngphfgaadoor", sum := "13f8b871f74fa8d8e549bd5493f51c173f4e4cf876eeea5a00c640e537c5d30c", checked := Tryd.checked }
namespace Rows
def none {H : Type} : Left H := { results := [], args := [] }

/- WHAT THE LISTED PACKAGE-LEVEL VARIABLES READ AS WHEN THE CALL BEGINS. Each datum BY PROGRAM (the guide's laid-datum.mjs) off the statement by which the dump's own 'gosem.cut.vars' lays the variable. In a bare row this is a premise. The card (YtmogabnngphfgaaDoorCards.lean) ties it to the program's text. -/
def laid_loop_example_g00884_impl_tinctureWords {H : Type} : DataW H := .agg [.lit (.string [103, 111, 108, 100]), .lit (.string [115, 105, 108, 118, 101, 114]), .lit (.string [114, 101, 100]), .lit (.string [98, 108, 117, 101]), .lit (.string [98, 108, 97, 99, 107]), .lit (.string [103, 114, 101, 101, 110]), .lit (.string [112, 117, 114, 112, 108, 101]), .lit (.string [101, 114, 109, 105, 110, 101]), .lit (.string [118, 97, 105, 114])]
def laid_loop_example_g00884_impl_divisionWords {H : Type} : DataW H := .agg [.lit (.string [112, 101, 114, 32, 112, 97, 108, 101]), .lit (.string [112, 101, 114, 32, 102, 101, 115, 115]), .lit (.string [112, 101, 114, 32, 98, 101, 110, 100]), .lit (.string [113, 117, 97, 114, 116, 101, 114, 108, 121]), .lit (.string [112, 101, 114, 32, 115, 97, 108, 116, 105, 114, 101]), .lit (.string [112, 97, 108, 121]), .lit (.string [98, 97, 114, 114, 121])]
def laid_loop_example_g00884_impl_lineWords {H : Type} : DataW H := .agg [.lit (.string [101, 110, 103, 114, 97, 105, 108, 101, 100]), .lit (.string [119, 97, 118, 121]), .lit (.string [101, 109, 98, 97, 116, 116, 108, 101, 100]), .lit (.string [105, 110, 100, 101, 110, 116, 101, 100])]

/-- 'laws.FnFields': WHATEVER THE INPUT: true; the input reads as it did. -/
def fnFieldsSpec : ChangeSpec := { name := "fnFields", vars := ["loop.example/g00884/impl.divisionWords", "loop.example/g00884/impl.lineWords", "loop.example/g00884/impl.tinctureWords"], fn := fun _ => fun
  | [d, g1, g2, g3] => { results := [.lit (.bool true)], args := [d], vars := [g1, g2, g3] }
  | _ => none }
def fnFieldsRow : OpenClaim := { program := "ytmogabnngphfgaadoor", sum := "13f8b871f74fa8d8e549bd5493f51c173f4e4cf876eeea5a00c640e537c5d30c", func := "loop.example/g00884/laws.FnFields", spec := "fnFields", inPlace := ["internal/abi.NoEscape", "internal/bytealg.IndexByteString", "internal/bytealg.IndexString"], recurses := true, named := ["loop.example/g00884/impl.divisionWords", "loop.example/g00884/impl.lineWords", "loop.example/g00884/impl.tinctureWords", "internal/bytealg.MaxLen"], apart := false, laid := [("loop.example/g00884/impl.tinctureWords", laid_loop_example_g00884_impl_tinctureWords), ("loop.example/g00884/impl.divisionWords", laid_loop_example_g00884_impl_divisionWords), ("loop.example/g00884/impl.lineWords", laid_loop_example_g00884_impl_lineWords)] }
def FnFieldsSaid : Prop := fnFieldsRow.holds Tryd.pinned (OpenSpec.ofChange fnFieldsSpec)

/-- ITS FALSE NEIGHBOUR: 'it returns false'. Refute it at one input. -/
def fnFieldsWrong : ChangeSpec := { name := "fnFields", vars := ["loop.example/g00884/impl.divisionWords", "loop.example/g00884/impl.lineWords", "loop.example/g00884/impl.tinctureWords"], fn := fun _ => fun
  | [d, g1, g2, g3] => { results := [.lit (.bool false)], args := [d], vars := [g1, g2, g3] }
  | _ => none }
def FnFieldsWrongFalsely : Prop := fnFieldsRow.holds Tryd.pinned (OpenSpec.ofChange fnFieldsWrong)

/-- 'laws.FnExactFieldText': WHATEVER THE INPUT: true; the input reads as it did. -/
def fnExactFieldTextSpec : ChangeSpec := { name := "fnExactFieldText", vars := ["loop.example/g00884/impl.divisionWords", "loop.example/g00884/impl.lineWords", "loop.example/g00884/impl.tinctureWords"], fn := fun _ => fun
  | [d, g1, g2, g3] => { results := [.lit (.bool true)], args := [d], vars := [g1, g2, g3] }
  | _ => none }
def fnExactFieldTextRow : OpenClaim := { program := "ytmogabnngphfgaadoor", sum := "13f8b871f74fa8d8e549bd5493f51c173f4e4cf876eeea5a00c640e537c5d30c", func := "loop.example/g00884/laws.FnExactFieldText", spec := "fnExactFieldText", inPlace := ["internal/abi.NoEscape"], named := ["loop.example/g00884/impl.divisionWords", "loop.example/g00884/impl.lineWords", "loop.example/g00884/impl.tinctureWords"], apart := false, laid := [("loop.example/g00884/impl.tinctureWords", laid_loop_example_g00884_impl_tinctureWords), ("loop.example/g00884/impl.divisionWords", laid_loop_example_g00884_impl_divisionWords), ("loop.example/g00884/impl.lineWords", laid_loop_example_g00884_impl_lineWords)] }
def FnExactFieldTextSaid : Prop := fnExactFieldTextRow.holds Tryd.pinned (OpenSpec.ofChange fnExactFieldTextSpec)

/-- ITS FALSE NEIGHBOUR: 'it returns false'. Refute it at one input. -/
def fnExactFieldTextWrong : ChangeSpec := { name := "fnExactFieldText", vars := ["loop.example/g00884/impl.divisionWords", "loop.example/g00884/impl.lineWords", "loop.example/g00884/impl.tinctureWords"], fn := fun _ => fun
  | [d, g1, g2, g3] => { results := [.lit (.bool false)], args := [d], vars := [g1, g2, g3] }
  | _ => none }
def FnExactFieldTextWrongFalsely : Prop := fnExactFieldTextRow.holds Tryd.pinned (OpenSpec.ofChange fnExactFieldTextWrong)

/-- 'laws.FnExactParseField': WHATEVER THE INPUT: true; the input reads as it did. -/
def fnExactParseFieldSpec : ChangeSpec := { name := "fnExactParseField", vars := ["loop.example/g00884/impl.divisionWords", "loop.example/g00884/impl.lineWords", "loop.example/g00884/impl.tinctureWords"], fn := fun _ => fun
  | [d, g1, g2, g3] => { results := [.lit (.bool true)], args := [d], vars := [g1, g2, g3] }
  | _ => none }
def fnExactParseFieldRow : OpenClaim := { program := "ytmogabnngphfgaadoor", sum := "13f8b871f74fa8d8e549bd5493f51c173f4e4cf876eeea5a00c640e537c5d30c", func := "loop.example/g00884/laws.FnExactParseField", spec := "fnExactParseField", inPlace := ["internal/bytealg.IndexByteString", "internal/bytealg.IndexString", "internal/abi.NoEscape"], named := ["loop.example/g00884/impl.divisionWords", "loop.example/g00884/impl.lineWords", "internal/bytealg.MaxLen", "loop.example/g00884/impl.tinctureWords"], apart := false, laid := [("loop.example/g00884/impl.tinctureWords", laid_loop_example_g00884_impl_tinctureWords), ("loop.example/g00884/impl.divisionWords", laid_loop_example_g00884_impl_divisionWords), ("loop.example/g00884/impl.lineWords", laid_loop_example_g00884_impl_lineWords)] }
def FnExactParseFieldSaid : Prop := fnExactParseFieldRow.holds Tryd.pinned (OpenSpec.ofChange fnExactParseFieldSpec)

/-- ITS FALSE NEIGHBOUR: 'it returns false'. Refute it at one input. -/
def fnExactParseFieldWrong : ChangeSpec := { name := "fnExactParseField", vars := ["loop.example/g00884/impl.divisionWords", "loop.example/g00884/impl.lineWords", "loop.example/g00884/impl.tinctureWords"], fn := fun _ => fun
  | [d, g1, g2, g3] => { results := [.lit (.bool false)], args := [d], vars := [g1, g2, g3] }
  | _ => none }
def FnExactParseFieldWrongFalsely : Prop := fnExactParseFieldRow.holds Tryd.pinned (OpenSpec.ofChange fnExactParseFieldWrong)

/- THE SECOND FORM. 'bulk': how many values and letters a reading holds, each counted each time it is reached (what is shared counts as often as it is met; a slice's spare places count too). A statement '..UptoSaid' is the law's where the arguments, and the package variables that the reading takes, are together of bulk at most 1048576: NARROWER than '..Said'. Prove '..Said' where nothing that the law and all that it calls make is longer than what came in: it says more and counts as full. Else prove '..UptoSaid'. A law counts once. -/
mutual
def uptoBulk {H : Type} : DataW H → Nat
  | .lit (.string bytes) => bytes.length + 1
  | .lit _ => 1
  | .nil => 1
  | .ptr d => uptoBulk d + 1
  | .slice elems spare => uptoBulkAll elems + uptoBulkAll spare + 1
  | .agg parts => uptoBulkAll parts + 1
  | .iface _ d => uptoBulk d + 1
  | .map entries => uptoBulkEntries entries + 1
  | .held _ => 1
def uptoBulkAll {H : Type} : List (DataW H) → Nat
  | [] => 0
  | d :: r => uptoBulk d + uptoBulkAll r
def uptoBulkEntries {H : Type} : List (Lit × DataW H) → Nat
  | [] => 0
  | x :: r => uptoBulkEntry x + uptoBulkEntries r
def uptoBulkEntry {H : Type} : Lit × DataW H → Nat
  | (.string bytes, d) => bytes.length + uptoBulk d + 1
  | (_, d) => uptoBulk d + 1
 end
def uptoSmall : (H : Type) → List (DataW H) → Bool := fun _ ds => decide (uptoBulkAll ds ≤ 1048576)
def OpenSpec.upto (s : _root_.Go.ChangeSpec) : _root_.Go.OpenSpec := { _root_.Go.OpenSpec.ofChange s with cond := some uptoSmall }

/-- 'laws.FnFields', WHERE WHAT IT READS IS OF BULK AT MOST 1048576: true; the input reads as it did. -/
def fnFieldsUptoRow : OpenClaim := { program := "ytmogabnngphfgaadoor", sum := "13f8b871f74fa8d8e549bd5493f51c173f4e4cf876eeea5a00c640e537c5d30c", func := "loop.example/g00884/laws.FnFields", spec := "fnFields", inPlace := ["internal/abi.NoEscape", "internal/bytealg.IndexByteString", "internal/bytealg.IndexString"], recurses := true, named := ["loop.example/g00884/impl.divisionWords", "loop.example/g00884/impl.lineWords", "loop.example/g00884/impl.tinctureWords", "internal/bytealg.MaxLen"], apart := false, laid := [("loop.example/g00884/impl.tinctureWords", laid_loop_example_g00884_impl_tinctureWords), ("loop.example/g00884/impl.divisionWords", laid_loop_example_g00884_impl_divisionWords), ("loop.example/g00884/impl.lineWords", laid_loop_example_g00884_impl_lineWords)], narrowed := true }
def FnFieldsUptoSaid : Prop := fnFieldsUptoRow.holds Tryd.pinned (OpenSpec.upto fnFieldsSpec)

/-- 'laws.FnExactFieldText', WHERE WHAT IT READS IS OF BULK AT MOST 1048576: true; the input reads as it did. -/
def fnExactFieldTextUptoRow : OpenClaim := { program := "ytmogabnngphfgaadoor", sum := "13f8b871f74fa8d8e549bd5493f51c173f4e4cf876eeea5a00c640e537c5d30c", func := "loop.example/g00884/laws.FnExactFieldText", spec := "fnExactFieldText", inPlace := ["internal/abi.NoEscape"], named := ["loop.example/g00884/impl.divisionWords", "loop.example/g00884/impl.lineWords", "loop.example/g00884/impl.tinctureWords"], apart := false, laid := [("loop.example/g00884/impl.tinctureWords", laid_loop_example_g00884_impl_tinctureWords), ("loop.example/g00884/impl.divisionWords", laid_loop_example_g00884_impl_divisionWords), ("loop.example/g00884/impl.lineWords", laid_loop_example_g00884_impl_lineWords)], narrowed := true }
def FnExactFieldTextUptoSaid : Prop := fnExactFieldTextUptoRow.holds Tryd.pinned (OpenSpec.upto fnExactFieldTextSpec)

/-- 'laws.FnExactParseField', WHERE WHAT IT READS IS OF BULK AT MOST 1048576: true; the input reads as it did. -/
def fnExactParseFieldUptoRow : OpenClaim := { program := "ytmogabnngphfgaadoor", sum := "13f8b871f74fa8d8e549bd5493f51c173f4e4cf876eeea5a00c640e537c5d30c", func := "loop.example/g00884/laws.FnExactParseField", spec := "fnExactParseField", inPlace := ["internal/bytealg.IndexByteString", "internal/bytealg.IndexString", "internal/abi.NoEscape"], named := ["loop.example/g00884/impl.divisionWords", "loop.example/g00884/impl.lineWords", "internal/bytealg.MaxLen", "loop.example/g00884/impl.tinctureWords"], apart := false, laid := [("loop.example/g00884/impl.tinctureWords", laid_loop_example_g00884_impl_tinctureWords), ("loop.example/g00884/impl.divisionWords", laid_loop_example_g00884_impl_divisionWords), ("loop.example/g00884/impl.lineWords", laid_loop_example_g00884_impl_lineWords)], narrowed := true }
def FnExactParseFieldUptoSaid : Prop := fnExactParseFieldUptoRow.holds Tryd.pinned (OpenSpec.upto fnExactParseFieldSpec)

end Rows
end Go.Proofs.YtmogabnngphfgaaDoor
