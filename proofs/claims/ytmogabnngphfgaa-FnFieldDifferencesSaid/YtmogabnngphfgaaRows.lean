/-
  No cell of these rows narrows 'for every input' (looked for: loops, veiled, ifaces, maps, wideKeys, modest, calm, conditions, laid).
  DERIVED. THE GIVEN ROWS OF THIS SEAT. 8 by the template 'for every input the law returns true; each argument reads behind the call as it read before'; 0 by the template 'total and deterministic' (their statements: YtmogabnngphfgaaTotals.lean).
  GIVEN WITH THE SEED: the statements are not yours to turn. If you find one false, say at which input.
  Laid BY PROGRAM, IN A SANDBOX (cutbox-rows.mjs): the forced cells as the released guide's own fill.sh prints them over the translation 1092d20d5fb994a8… (all of the seat's roots in one cut). By AI agents, Wed Nov 11 2026. No macro, syntax, notation, axiom, sorry.
-/
import Derived.Test.YtmogabnngphfgaaChecked
import GoSem.Claim
import GoSem.ClaimJoined
import GoSem.ClaimMapViews
import Derived.JoinedTies
import Derived.KernelRfl
namespace Go.Proofs.Ytmogabnngphfgaa
/- THE CELL 'sum', in the pinned program and in every row, IS THE sha256 OF THE DUMP (.gsa) THAT YtmogabnngphfgaaProg.lean LOADS. Nothing in Lean hashes anything: it is a label: what it is worth is what the hold of that sum in a sandbox is worth. -/
noncomputable def Try.pinned : Pinned := { name := "ytmogabnngphfgaa", sum := "1092d20d5fb994a8491804128bf157eff7c70265b68c3dd3e67ec20b5b6bc3a5", checked := Try.checked }
namespace Rows
def none {H : Type} : Left H := { results := [], args := [] }

/-- 'laws.FnFieldDifferences': WHATEVER THE INPUT: true; the input reads as it did. -/
def fnFieldDifferencesSpec : ChangeSpec := { name := "fnFieldDifferences", fn := fun _ => fun
  | [d] => { results := [.lit (.bool true)], args := [d] }
  | _ => none }
def fnFieldDifferencesRow : OpenClaim := { program := "ytmogabnngphfgaa", sum := "1092d20d5fb994a8491804128bf157eff7c70265b68c3dd3e67ec20b5b6bc3a5", func := "loop.example/g00884/laws.FnFieldDifferences", spec := "fnFieldDifferences", apart := false }
def FnFieldDifferencesSaid : Prop := fnFieldDifferencesRow.holds Try.pinned (OpenSpec.ofChange fnFieldDifferencesSpec)

/-- ITS FALSE NEIGHBOUR: 'it returns false'. Refute it at one input. -/
def fnFieldDifferencesWrong : ChangeSpec := { name := "fnFieldDifferences", fn := fun _ => fun
  | [d] => { results := [.lit (.bool false)], args := [d] }
  | _ => none }
def FnFieldDifferencesWrongFalsely : Prop := fnFieldDifferencesRow.holds Try.pinned (OpenSpec.ofChange fnFieldDifferencesWrong)

/-- 'laws.FnExactIsValidField': WHATEVER THE INPUT: true; the input reads as it did. -/
def fnExactIsValidFieldSpec : ChangeSpec := { name := "fnExactIsValidField", fn := fun _ => fun
  | [d] => { results := [.lit (.bool true)], args := [d] }
  | _ => none }
def fnExactIsValidFieldRow : OpenClaim := { program := "ytmogabnngphfgaa", sum := "1092d20d5fb994a8491804128bf157eff7c70265b68c3dd3e67ec20b5b6bc3a5", func := "loop.example/g00884/laws.FnExactIsValidField", spec := "fnExactIsValidField", apart := false }
def FnExactIsValidFieldSaid : Prop := fnExactIsValidFieldRow.holds Try.pinned (OpenSpec.ofChange fnExactIsValidFieldSpec)

/-- ITS FALSE NEIGHBOUR: 'it returns false'. Refute it at one input. -/
def fnExactIsValidFieldWrong : ChangeSpec := { name := "fnExactIsValidField", fn := fun _ => fun
  | [d] => { results := [.lit (.bool false)], args := [d] }
  | _ => none }
def FnExactIsValidFieldWrongFalsely : Prop := fnExactIsValidFieldRow.holds Try.pinned (OpenSpec.ofChange fnExactIsValidFieldWrong)

/-- 'laws.FnExactFieldTinctures': WHATEVER THE INPUT: true; the input reads as it did. -/
def fnExactFieldTincturesSpec : ChangeSpec := { name := "fnExactFieldTinctures", fn := fun _ => fun
  | [d] => { results := [.lit (.bool true)], args := [d] }
  | _ => none }
def fnExactFieldTincturesRow : OpenClaim := { program := "ytmogabnngphfgaa", sum := "1092d20d5fb994a8491804128bf157eff7c70265b68c3dd3e67ec20b5b6bc3a5", func := "loop.example/g00884/laws.FnExactFieldTinctures", spec := "fnExactFieldTinctures", apart := false }
def FnExactFieldTincturesSaid : Prop := fnExactFieldTincturesRow.holds Try.pinned (OpenSpec.ofChange fnExactFieldTincturesSpec)

/-- ITS FALSE NEIGHBOUR: 'it returns false'. Refute it at one input. -/
def fnExactFieldTincturesWrong : ChangeSpec := { name := "fnExactFieldTinctures", fn := fun _ => fun
  | [d] => { results := [.lit (.bool false)], args := [d] }
  | _ => none }
def FnExactFieldTincturesWrongFalsely : Prop := fnExactFieldTincturesRow.holds Try.pinned (OpenSpec.ofChange fnExactFieldTincturesWrong)

/-- 'laws.FnExactSwapField': WHATEVER THE INPUT: true; the input reads as it did. -/
def fnExactSwapFieldSpec : ChangeSpec := { name := "fnExactSwapField", fn := fun _ => fun
  | [d] => { results := [.lit (.bool true)], args := [d] }
  | _ => none }
def fnExactSwapFieldRow : OpenClaim := { program := "ytmogabnngphfgaa", sum := "1092d20d5fb994a8491804128bf157eff7c70265b68c3dd3e67ec20b5b6bc3a5", func := "loop.example/g00884/laws.FnExactSwapField", spec := "fnExactSwapField", apart := false }
def FnExactSwapFieldSaid : Prop := fnExactSwapFieldRow.holds Try.pinned (OpenSpec.ofChange fnExactSwapFieldSpec)

/-- ITS FALSE NEIGHBOUR: 'it returns false'. Refute it at one input. -/
def fnExactSwapFieldWrong : ChangeSpec := { name := "fnExactSwapField", fn := fun _ => fun
  | [d] => { results := [.lit (.bool false)], args := [d] }
  | _ => none }
def FnExactSwapFieldWrongFalsely : Prop := fnExactSwapFieldRow.holds Try.pinned (OpenSpec.ofChange fnExactSwapFieldWrong)

/-- 'laws.FnExactPlainField': WHATEVER THE INPUT: true; the input reads as it did. -/
def fnExactPlainFieldSpec : ChangeSpec := { name := "fnExactPlainField", fn := fun _ => fun
  | [d] => { results := [.lit (.bool true)], args := [d] }
  | _ => none }
def fnExactPlainFieldRow : OpenClaim := { program := "ytmogabnngphfgaa", sum := "1092d20d5fb994a8491804128bf157eff7c70265b68c3dd3e67ec20b5b6bc3a5", func := "loop.example/g00884/laws.FnExactPlainField", spec := "fnExactPlainField", apart := false }
def FnExactPlainFieldSaid : Prop := fnExactPlainFieldRow.holds Try.pinned (OpenSpec.ofChange fnExactPlainFieldSpec)

/-- ITS FALSE NEIGHBOUR: 'it returns false'. Refute it at one input. -/
def fnExactPlainFieldWrong : ChangeSpec := { name := "fnExactPlainField", fn := fun _ => fun
  | [d] => { results := [.lit (.bool false)], args := [d] }
  | _ => none }
def FnExactPlainFieldWrongFalsely : Prop := fnExactPlainFieldRow.holds Try.pinned (OpenSpec.ofChange fnExactPlainFieldWrong)

/-- 'laws.FnExactFieldParts': WHATEVER THE INPUT: true; the input reads as it did. -/
def fnExactFieldPartsSpec : ChangeSpec := { name := "fnExactFieldParts", fn := fun _ => fun
  | [d] => { results := [.lit (.bool true)], args := [d] }
  | _ => none }
def fnExactFieldPartsRow : OpenClaim := { program := "ytmogabnngphfgaa", sum := "1092d20d5fb994a8491804128bf157eff7c70265b68c3dd3e67ec20b5b6bc3a5", func := "loop.example/g00884/laws.FnExactFieldParts", spec := "fnExactFieldParts", apart := false }
def FnExactFieldPartsSaid : Prop := fnExactFieldPartsRow.holds Try.pinned (OpenSpec.ofChange fnExactFieldPartsSpec)

/-- ITS FALSE NEIGHBOUR: 'it returns false'. Refute it at one input. -/
def fnExactFieldPartsWrong : ChangeSpec := { name := "fnExactFieldParts", fn := fun _ => fun
  | [d] => { results := [.lit (.bool false)], args := [d] }
  | _ => none }
def FnExactFieldPartsWrongFalsely : Prop := fnExactFieldPartsRow.holds Try.pinned (OpenSpec.ofChange fnExactFieldPartsWrong)

/-- 'laws.FnExactFieldDifferences': WHATEVER THE INPUT: true; the input reads as it did. -/
def fnExactFieldDifferencesSpec : ChangeSpec := { name := "fnExactFieldDifferences", fn := fun _ => fun
  | [d1, d2] => { results := [.lit (.bool true)], args := [d1, d2] }
  | _ => none }
def fnExactFieldDifferencesRow : OpenClaim := { program := "ytmogabnngphfgaa", sum := "1092d20d5fb994a8491804128bf157eff7c70265b68c3dd3e67ec20b5b6bc3a5", func := "loop.example/g00884/laws.FnExactFieldDifferences", spec := "fnExactFieldDifferences", apart := false }
def FnExactFieldDifferencesSaid : Prop := fnExactFieldDifferencesRow.holds Try.pinned (OpenSpec.ofChange fnExactFieldDifferencesSpec)

/-- ITS FALSE NEIGHBOUR: 'it returns false'. Refute it at one input. -/
def fnExactFieldDifferencesWrong : ChangeSpec := { name := "fnExactFieldDifferences", fn := fun _ => fun
  | [d1, d2] => { results := [.lit (.bool false)], args := [d1, d2] }
  | _ => none }
def FnExactFieldDifferencesWrongFalsely : Prop := fnExactFieldDifferencesRow.holds Try.pinned (OpenSpec.ofChange fnExactFieldDifferencesWrong)

/-- 'laws.FnExactSameParts': WHATEVER THE INPUT: true; the input reads as it did. -/
def fnExactSamePartsSpec : ChangeSpec := { name := "fnExactSameParts", fn := fun _ => fun
  | [d1, d2] => { results := [.lit (.bool true)], args := [d1, d2] }
  | _ => none }
def fnExactSamePartsRow : OpenClaim := { program := "ytmogabnngphfgaa", sum := "1092d20d5fb994a8491804128bf157eff7c70265b68c3dd3e67ec20b5b6bc3a5", func := "loop.example/g00884/laws.FnExactSameParts", spec := "fnExactSameParts", recurses := true, apart := false }
def FnExactSamePartsSaid : Prop := fnExactSamePartsRow.holds Try.pinned (OpenSpec.ofChange fnExactSamePartsSpec)

/-- ITS FALSE NEIGHBOUR: 'it returns false'. Refute it at one input. -/
def fnExactSamePartsWrong : ChangeSpec := { name := "fnExactSameParts", fn := fun _ => fun
  | [d1, d2] => { results := [.lit (.bool false)], args := [d1, d2] }
  | _ => none }
def FnExactSamePartsWrongFalsely : Prop := fnExactSamePartsRow.holds Try.pinned (OpenSpec.ofChange fnExactSamePartsWrong)

/- THE SECOND FORM. 'bulk': how many values and letters a reading holds, each counted each time it is reached (what is shared counts as often as it is met; a slice's spare places count too). A statement '..UptoSaid' is the law's where the arguments, and the package variables that the reading takes, are together of bulk at most 1048576: NARROWER than '..Said'. Prove '..Said' where nothing that the law and all that it calls make is longer than what came in: it says more and counts as full. Else prove '..UptoSaid'. A law counts once. -/
mutual
def uptoBulk {H : Type} : DataW H → Nat
  | .lit (.string bytes) => bytes.length + 1
  | .lit _ => 1
  | .nil => 1
  | .ptr d => uptoBulk d + 1
  | .slice elems spare => uptoBulkAll elems + uptoBulkAll spare + 1
  | .agg parts => uptoBulkAll parts + 1
  | .iface _ d => uptoBulk d + 1
  | .map entries => uptoBulkEntries entries + 1
  | .held _ => 1
def uptoBulkAll {H : Type} : List (DataW H) → Nat
  | [] => 0
  | d :: r => uptoBulk d + uptoBulkAll r
def uptoBulkEntries {H : Type} : List (Lit × DataW H) → Nat
  | [] => 0
  | x :: r => uptoBulkEntry x + uptoBulkEntries r
def uptoBulkEntry {H : Type} : Lit × DataW H → Nat
  | (.string bytes, d) => bytes.length + uptoBulk d + 1
  | (_, d) => uptoBulk d + 1
 end
def uptoSmall : (H : Type) → List (DataW H) → Bool := fun _ ds => decide (uptoBulkAll ds ≤ 1048576)
def OpenSpec.upto (s : _root_.Go.ChangeSpec) : _root_.Go.OpenSpec := { _root_.Go.OpenSpec.ofChange s with cond := some uptoSmall }

/-- 'laws.FnFieldDifferences', WHERE WHAT IT READS IS OF BULK AT MOST 1048576: true; the input reads as it did. -/
def fnFieldDifferencesUptoRow : OpenClaim := { program := "ytmogabnngphfgaa", sum := "1092d20d5fb994a8491804128bf157eff7c70265b68c3dd3e67ec20b5b6bc3a5", func := "loop.example/g00884/laws.FnFieldDifferences", spec := "fnFieldDifferences", apart := false, narrowed := true }
def FnFieldDifferencesUptoSaid : Prop := fnFieldDifferencesUptoRow.holds Try.pinned (OpenSpec.upto fnFieldDifferencesSpec)

/-- 'laws.FnExactIsValidField', WHERE WHAT IT READS IS OF BULK AT MOST 1048576: true; the input reads as it did. -/
def fnExactIsValidFieldUptoRow : OpenClaim := { program := "ytmogabnngphfgaa", sum := "1092d20d5fb994a8491804128bf157eff7c70265b68c3dd3e67ec20b5b6bc3a5", func := "loop.example/g00884/laws.FnExactIsValidField", spec := "fnExactIsValidField", apart := false, narrowed := true }
def FnExactIsValidFieldUptoSaid : Prop := fnExactIsValidFieldUptoRow.holds Try.pinned (OpenSpec.upto fnExactIsValidFieldSpec)

/-- 'laws.FnExactFieldTinctures', WHERE WHAT IT READS IS OF BULK AT MOST 1048576: true; the input reads as it did. -/
def fnExactFieldTincturesUptoRow : OpenClaim := { program := "ytmogabnngphfgaa", sum := "1092d20d5fb994a8491804128bf157eff7c70265b68c3dd3e67ec20b5b6bc3a5", func := "loop.example/g00884/laws.FnExactFieldTinctures", spec := "fnExactFieldTinctures", apart := false, narrowed := true }
def FnExactFieldTincturesUptoSaid : Prop := fnExactFieldTincturesUptoRow.holds Try.pinned (OpenSpec.upto fnExactFieldTincturesSpec)

/-- 'laws.FnExactSwapField', WHERE WHAT IT READS IS OF BULK AT MOST 1048576: true; the input reads as it did. -/
def fnExactSwapFieldUptoRow : OpenClaim := { program := "ytmogabnngphfgaa", sum := "1092d20d5fb994a8491804128bf157eff7c70265b68c3dd3e67ec20b5b6bc3a5", func := "loop.example/g00884/laws.FnExactSwapField", spec := "fnExactSwapField", apart := false, narrowed := true }
def FnExactSwapFieldUptoSaid : Prop := fnExactSwapFieldUptoRow.holds Try.pinned (OpenSpec.upto fnExactSwapFieldSpec)

/-- 'laws.FnExactPlainField', WHERE WHAT IT READS IS OF BULK AT MOST 1048576: true; the input reads as it did. -/
def fnExactPlainFieldUptoRow : OpenClaim := { program := "ytmogabnngphfgaa", sum := "1092d20d5fb994a8491804128bf157eff7c70265b68c3dd3e67ec20b5b6bc3a5", func := "loop.example/g00884/laws.FnExactPlainField", spec := "fnExactPlainField", apart := false, narrowed := true }
def FnExactPlainFieldUptoSaid : Prop := fnExactPlainFieldUptoRow.holds Try.pinned (OpenSpec.upto fnExactPlainFieldSpec)

/-- 'laws.FnExactFieldParts', WHERE WHAT IT READS IS OF BULK AT MOST 1048576: true; the input reads as it did. -/
def fnExactFieldPartsUptoRow : OpenClaim := { program := "ytmogabnngphfgaa", sum := "1092d20d5fb994a8491804128bf157eff7c70265b68c3dd3e67ec20b5b6bc3a5", func := "loop.example/g00884/laws.FnExactFieldParts", spec := "fnExactFieldParts", apart := false, narrowed := true }
def FnExactFieldPartsUptoSaid : Prop := fnExactFieldPartsUptoRow.holds Try.pinned (OpenSpec.upto fnExactFieldPartsSpec)

/-- 'laws.FnExactFieldDifferences', WHERE WHAT IT READS IS OF BULK AT MOST 1048576: true; the input reads as it did. -/
def fnExactFieldDifferencesUptoRow : OpenClaim := { program := "ytmogabnngphfgaa", sum := "1092d20d5fb994a8491804128bf157eff7c70265b68c3dd3e67ec20b5b6bc3a5", func := "loop.example/g00884/laws.FnExactFieldDifferences", spec := "fnExactFieldDifferences", apart := false, narrowed := true }
def FnExactFieldDifferencesUptoSaid : Prop := fnExactFieldDifferencesUptoRow.holds Try.pinned (OpenSpec.upto fnExactFieldDifferencesSpec)

/-- 'laws.FnExactSameParts', WHERE WHAT IT READS IS OF BULK AT MOST 1048576: true; the input reads as it did. -/
def fnExactSamePartsUptoRow : OpenClaim := { program := "ytmogabnngphfgaa", sum := "1092d20d5fb994a8491804128bf157eff7c70265b68c3dd3e67ec20b5b6bc3a5", func := "loop.example/g00884/laws.FnExactSameParts", spec := "fnExactSameParts", recurses := true, apart := false, narrowed := true }
def FnExactSamePartsUptoSaid : Prop := fnExactSamePartsUptoRow.holds Try.pinned (OpenSpec.upto fnExactSamePartsSpec)

end Rows
end Go.Proofs.Ytmogabnngphfgaa
