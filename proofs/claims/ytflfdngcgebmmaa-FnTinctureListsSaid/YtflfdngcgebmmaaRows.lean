/-
  No cell of these rows narrows 'for every input' (looked for: loops, veiled, ifaces, maps, wideKeys, modest, calm, conditions, laid).
  DERIVED. THE GIVEN ROWS OF THIS SEAT. 9 by the template 'for every input the law returns true; each argument reads behind the call as it read before'; 0 by the template 'total and deterministic' (their statements: YtflfdngcgebmmaaTotals.lean).
  GIVEN WITH THE SEED: the statements are not yours to turn. If you find one false, say at which input.
  Laid BY PROGRAM, IN A SANDBOX (cutbox-rows.mjs): the forced cells as the released guide's own fill.sh prints them over the translation cb07d978896497ce… (all of the seat's roots in one cut). By AI agents, Wed Nov 11 2026. No macro, syntax, notation, axiom, sorry.
-/
import Derived.Test.YtflfdngcgebmmaaChecked
import GoSem.Claim
import GoSem.ClaimJoined
import GoSem.ClaimMapViews
import Derived.JoinedTies
import Derived.KernelRfl
namespace Go.Proofs.Ytflfdngcgebmmaa
/- THE CELL 'sum', in the pinned program and in every row, IS THE sha256 OF THE DUMP (.gsa) THAT YtflfdngcgebmmaaProg.lean LOADS. Nothing in Lean hashes anything: it is a label: what it is worth is what the hold of that sum in a sandbox is worth. -/
noncomputable def Try.pinned : Pinned := { name := "ytflfdngcgebmmaa", sum := "cb07d978896497ceba78a2ead9deed9b5e8ef72fd91a9d4c7adac16618acf799", checked := Try.checked }
namespace Rows
def none {H : Type} : Left H := { results := [], args := [] }

/-- 'laws.FnTinctureLists': WHATEVER THE INPUT: true; the input reads as it did. -/
def fnTinctureListsSpec : ChangeSpec := { name := "fnTinctureLists", fn := fun _ => fun
  | [d] => { results := [.lit (.bool true)], args := [d] }
  | _ => none }
def fnTinctureListsRow : OpenClaim := { program := "ytflfdngcgebmmaa", sum := "cb07d978896497ceba78a2ead9deed9b5e8ef72fd91a9d4c7adac16618acf799", func := "loop.example/g00884/laws.FnTinctureLists", spec := "fnTinctureLists", apart := false }
def FnTinctureListsSaid : Prop := fnTinctureListsRow.holds Try.pinned (OpenSpec.ofChange fnTinctureListsSpec)

/-- ITS FALSE NEIGHBOUR: 'it returns false'. Refute it at one input. -/
def fnTinctureListsWrong : ChangeSpec := { name := "fnTinctureLists", fn := fun _ => fun
  | [d] => { results := [.lit (.bool false)], args := [d] }
  | _ => none }
def FnTinctureListsWrongFalsely : Prop := fnTinctureListsRow.holds Try.pinned (OpenSpec.ofChange fnTinctureListsWrong)

/-- 'laws.FnExactIsTincture': WHATEVER THE INPUT: true; the input reads as it did. -/
def fnExactIsTinctureSpec : ChangeSpec := { name := "fnExactIsTincture", fn := fun _ => fun
  | [d] => { results := [.lit (.bool true)], args := [d] }
  | _ => none }
def fnExactIsTinctureRow : OpenClaim := { program := "ytflfdngcgebmmaa", sum := "cb07d978896497ceba78a2ead9deed9b5e8ef72fd91a9d4c7adac16618acf799", func := "loop.example/g00884/laws.FnExactIsTincture", spec := "fnExactIsTincture", apart := false }
def FnExactIsTinctureSaid : Prop := fnExactIsTinctureRow.holds Try.pinned (OpenSpec.ofChange fnExactIsTinctureSpec)

/-- ITS FALSE NEIGHBOUR: 'it returns false'. Refute it at one input. -/
def fnExactIsTinctureWrong : ChangeSpec := { name := "fnExactIsTincture", fn := fun _ => fun
  | [d] => { results := [.lit (.bool false)], args := [d] }
  | _ => none }
def FnExactIsTinctureWrongFalsely : Prop := fnExactIsTinctureRow.holds Try.pinned (OpenSpec.ofChange fnExactIsTinctureWrong)

/-- 'laws.FnExactClassOf': WHATEVER THE INPUT: true; the input reads as it did. -/
def fnExactClassOfSpec : ChangeSpec := { name := "fnExactClassOf", fn := fun _ => fun
  | [d] => { results := [.lit (.bool true)], args := [d] }
  | _ => none }
def fnExactClassOfRow : OpenClaim := { program := "ytflfdngcgebmmaa", sum := "cb07d978896497ceba78a2ead9deed9b5e8ef72fd91a9d4c7adac16618acf799", func := "loop.example/g00884/laws.FnExactClassOf", spec := "fnExactClassOf", apart := false }
def FnExactClassOfSaid : Prop := fnExactClassOfRow.holds Try.pinned (OpenSpec.ofChange fnExactClassOfSpec)

/-- ITS FALSE NEIGHBOUR: 'it returns false'. Refute it at one input. -/
def fnExactClassOfWrong : ChangeSpec := { name := "fnExactClassOf", fn := fun _ => fun
  | [d] => { results := [.lit (.bool false)], args := [d] }
  | _ => none }
def FnExactClassOfWrongFalsely : Prop := fnExactClassOfRow.holds Try.pinned (OpenSpec.ofChange fnExactClassOfWrong)

/-- 'laws.FnExactBaseTinctures': WHATEVER THE INPUT: true; the input reads as it did. -/
def fnExactBaseTincturesSpec : ChangeSpec := { name := "fnExactBaseTinctures", fn := fun _ => fun
  | [d] => { results := [.lit (.bool true)], args := [d] }
  | _ => none }
def fnExactBaseTincturesRow : OpenClaim := { program := "ytflfdngcgebmmaa", sum := "cb07d978896497ceba78a2ead9deed9b5e8ef72fd91a9d4c7adac16618acf799", func := "loop.example/g00884/laws.FnExactBaseTinctures", spec := "fnExactBaseTinctures", apart := false }
def FnExactBaseTincturesSaid : Prop := fnExactBaseTincturesRow.holds Try.pinned (OpenSpec.ofChange fnExactBaseTincturesSpec)

/-- ITS FALSE NEIGHBOUR: 'it returns false'. Refute it at one input. -/
def fnExactBaseTincturesWrong : ChangeSpec := { name := "fnExactBaseTinctures", fn := fun _ => fun
  | [d] => { results := [.lit (.bool false)], args := [d] }
  | _ => none }
def FnExactBaseTincturesWrongFalsely : Prop := fnExactBaseTincturesRow.holds Try.pinned (OpenSpec.ofChange fnExactBaseTincturesWrong)

/-- 'laws.FnExactClash': WHATEVER THE INPUT: true; the input reads as it did. -/
def fnExactClashSpec : ChangeSpec := { name := "fnExactClash", fn := fun _ => fun
  | [d1, d2] => { results := [.lit (.bool true)], args := [d1, d2] }
  | _ => none }
def fnExactClashRow : OpenClaim := { program := "ytflfdngcgebmmaa", sum := "cb07d978896497ceba78a2ead9deed9b5e8ef72fd91a9d4c7adac16618acf799", func := "loop.example/g00884/laws.FnExactClash", spec := "fnExactClash", apart := false }
def FnExactClashSaid : Prop := fnExactClashRow.holds Try.pinned (OpenSpec.ofChange fnExactClashSpec)

/-- ITS FALSE NEIGHBOUR: 'it returns false'. Refute it at one input. -/
def fnExactClashWrong : ChangeSpec := { name := "fnExactClash", fn := fun _ => fun
  | [d1, d2] => { results := [.lit (.bool false)], args := [d1, d2] }
  | _ => none }
def FnExactClashWrongFalsely : Prop := fnExactClashRow.holds Try.pinned (OpenSpec.ofChange fnExactClashWrong)

/-- 'laws.FnExactContrastOf': WHATEVER THE INPUT: true; the input reads as it did. -/
def fnExactContrastOfSpec : ChangeSpec := { name := "fnExactContrastOf", fn := fun _ => fun
  | [d1, d2] => { results := [.lit (.bool true)], args := [d1, d2] }
  | _ => none }
def fnExactContrastOfRow : OpenClaim := { program := "ytflfdngcgebmmaa", sum := "cb07d978896497ceba78a2ead9deed9b5e8ef72fd91a9d4c7adac16618acf799", func := "loop.example/g00884/laws.FnExactContrastOf", spec := "fnExactContrastOf", unfollowed := true, recurses := true, apart := false }
def FnExactContrastOfSaid : Prop := fnExactContrastOfRow.holds Try.pinned (OpenSpec.ofChange fnExactContrastOfSpec)

/-- ITS FALSE NEIGHBOUR: 'it returns false'. Refute it at one input. -/
def fnExactContrastOfWrong : ChangeSpec := { name := "fnExactContrastOf", fn := fun _ => fun
  | [d1, d2] => { results := [.lit (.bool false)], args := [d1, d2] }
  | _ => none }
def FnExactContrastOfWrongFalsely : Prop := fnExactContrastOfRow.holds Try.pinned (OpenSpec.ofChange fnExactContrastOfWrong)

/-- 'laws.FnExactTincturesAgainst': WHATEVER THE INPUT: true; the input reads as it did. -/
def fnExactTincturesAgainstSpec : ChangeSpec := { name := "fnExactTincturesAgainst", fn := fun _ => fun
  | [d] => { results := [.lit (.bool true)], args := [d] }
  | _ => none }
def fnExactTincturesAgainstRow : OpenClaim := { program := "ytflfdngcgebmmaa", sum := "cb07d978896497ceba78a2ead9deed9b5e8ef72fd91a9d4c7adac16618acf799", func := "loop.example/g00884/laws.FnExactTincturesAgainst", spec := "fnExactTincturesAgainst", apart := false }
def FnExactTincturesAgainstSaid : Prop := fnExactTincturesAgainstRow.holds Try.pinned (OpenSpec.ofChange fnExactTincturesAgainstSpec)

/-- ITS FALSE NEIGHBOUR: 'it returns false'. Refute it at one input. -/
def fnExactTincturesAgainstWrong : ChangeSpec := { name := "fnExactTincturesAgainst", fn := fun _ => fun
  | [d] => { results := [.lit (.bool false)], args := [d] }
  | _ => none }
def FnExactTincturesAgainstWrongFalsely : Prop := fnExactTincturesAgainstRow.holds Try.pinned (OpenSpec.ofChange fnExactTincturesAgainstWrong)

/-- 'laws.FnExactCountTinctures': WHATEVER THE INPUT: true; the input reads as it did. -/
def fnExactCountTincturesSpec : ChangeSpec := { name := "fnExactCountTinctures", fn := fun _ => fun
  | [d] => { results := [.lit (.bool true)], args := [d] }
  | _ => none }
def fnExactCountTincturesRow : OpenClaim := { program := "ytflfdngcgebmmaa", sum := "cb07d978896497ceba78a2ead9deed9b5e8ef72fd91a9d4c7adac16618acf799", func := "loop.example/g00884/laws.FnExactCountTinctures", spec := "fnExactCountTinctures", apart := false }
def FnExactCountTincturesSaid : Prop := fnExactCountTincturesRow.holds Try.pinned (OpenSpec.ofChange fnExactCountTincturesSpec)

/-- ITS FALSE NEIGHBOUR: 'it returns false'. Refute it at one input. -/
def fnExactCountTincturesWrong : ChangeSpec := { name := "fnExactCountTinctures", fn := fun _ => fun
  | [d] => { results := [.lit (.bool false)], args := [d] }
  | _ => none }
def FnExactCountTincturesWrongFalsely : Prop := fnExactCountTincturesRow.holds Try.pinned (OpenSpec.ofChange fnExactCountTincturesWrong)

/-- 'laws.FnExactFirstOf': WHATEVER THE INPUT: true; the input reads as it did. -/
def fnExactFirstOfSpec : ChangeSpec := { name := "fnExactFirstOf", fn := fun _ => fun
  | [d] => { results := [.lit (.bool true)], args := [d] }
  | _ => none }
def fnExactFirstOfRow : OpenClaim := { program := "ytflfdngcgebmmaa", sum := "cb07d978896497ceba78a2ead9deed9b5e8ef72fd91a9d4c7adac16618acf799", func := "loop.example/g00884/laws.FnExactFirstOf", spec := "fnExactFirstOf", apart := false }
def FnExactFirstOfSaid : Prop := fnExactFirstOfRow.holds Try.pinned (OpenSpec.ofChange fnExactFirstOfSpec)

/-- ITS FALSE NEIGHBOUR: 'it returns false'. Refute it at one input. -/
def fnExactFirstOfWrong : ChangeSpec := { name := "fnExactFirstOf", fn := fun _ => fun
  | [d] => { results := [.lit (.bool false)], args := [d] }
  | _ => none }
def FnExactFirstOfWrongFalsely : Prop := fnExactFirstOfRow.holds Try.pinned (OpenSpec.ofChange fnExactFirstOfWrong)

/- THE SECOND FORM. 'bulk': how many values and letters a reading holds, each counted each time it is reached (what is shared counts as often as it is met; a slice's spare places count too). A statement '..UptoSaid' is the law's where the arguments, and the package variables that the reading takes, are together of bulk at most 1048576: NARROWER than '..Said'. Prove '..Said' where nothing that the law and all that it calls make is longer than what came in: it says more and counts as full. Else prove '..UptoSaid'. A law counts once. -/
mutual
def uptoBulk {H : Type} : DataW H → Nat
  | .lit (.string bytes) => bytes.length + 1
  | .lit _ => 1
  | .nil => 1
  | .ptr d => uptoBulk d + 1
  | .slice elems spare => uptoBulkAll elems + uptoBulkAll spare + 1
  | .agg parts => uptoBulkAll parts + 1
  | .iface _ d => uptoBulk d + 1
  | .map entries => uptoBulkEntries entries + 1
  | .held _ => 1
def uptoBulkAll {H : Type} : List (DataW H) → Nat
  | [] => 0
  | d :: r => uptoBulk d + uptoBulkAll r
def uptoBulkEntries {H : Type} : List (Lit × DataW H) → Nat
  | [] => 0
  | x :: r => uptoBulkEntry x + uptoBulkEntries r
def uptoBulkEntry {H : Type} : Lit × DataW H → Nat
  | (.string bytes, d) => bytes.length + uptoBulk d + 1
  | (_, d) => uptoBulk d + 1
 end
def uptoSmall : (H : Type) → List (DataW H) → Bool := fun _ ds => decide (uptoBulkAll ds ≤ 1048576)
def OpenSpec.upto (s : _root_.Go.ChangeSpec) : _root_.Go.OpenSpec := { _root_.Go.OpenSpec.ofChange s with cond := some uptoSmall }

/-- 'laws.FnTinctureLists', WHERE WHAT IT READS IS OF BULK AT MOST 1048576: true; the input reads as it did. -/
def fnTinctureListsUptoRow : OpenClaim := { program := "ytflfdngcgebmmaa", sum := "cb07d978896497ceba78a2ead9deed9b5e8ef72fd91a9d4c7adac16618acf799", func := "loop.example/g00884/laws.FnTinctureLists", spec := "fnTinctureLists", apart := false, narrowed := true }
def FnTinctureListsUptoSaid : Prop := fnTinctureListsUptoRow.holds Try.pinned (OpenSpec.upto fnTinctureListsSpec)

/-- 'laws.FnExactIsTincture', WHERE WHAT IT READS IS OF BULK AT MOST 1048576: true; the input reads as it did. -/
def fnExactIsTinctureUptoRow : OpenClaim := { program := "ytflfdngcgebmmaa", sum := "cb07d978896497ceba78a2ead9deed9b5e8ef72fd91a9d4c7adac16618acf799", func := "loop.example/g00884/laws.FnExactIsTincture", spec := "fnExactIsTincture", apart := false, narrowed := true }
def FnExactIsTinctureUptoSaid : Prop := fnExactIsTinctureUptoRow.holds Try.pinned (OpenSpec.upto fnExactIsTinctureSpec)

/-- 'laws.FnExactClassOf', WHERE WHAT IT READS IS OF BULK AT MOST 1048576: true; the input reads as it did. -/
def fnExactClassOfUptoRow : OpenClaim := { program := "ytflfdngcgebmmaa", sum := "cb07d978896497ceba78a2ead9deed9b5e8ef72fd91a9d4c7adac16618acf799", func := "loop.example/g00884/laws.FnExactClassOf", spec := "fnExactClassOf", apart := false, narrowed := true }
def FnExactClassOfUptoSaid : Prop := fnExactClassOfUptoRow.holds Try.pinned (OpenSpec.upto fnExactClassOfSpec)

/-- 'laws.FnExactBaseTinctures', WHERE WHAT IT READS IS OF BULK AT MOST 1048576: true; the input reads as it did. -/
def fnExactBaseTincturesUptoRow : OpenClaim := { program := "ytflfdngcgebmmaa", sum := "cb07d978896497ceba78a2ead9deed9b5e8ef72fd91a9d4c7adac16618acf799", func := "loop.example/g00884/laws.FnExactBaseTinctures", spec := "fnExactBaseTinctures", apart := false, narrowed := true }
def FnExactBaseTincturesUptoSaid : Prop := fnExactBaseTincturesUptoRow.holds Try.pinned (OpenSpec.upto fnExactBaseTincturesSpec)

/-- 'laws.FnExactClash', WHERE WHAT IT READS IS OF BULK AT MOST 1048576: true; the input reads as it did. -/
def fnExactClashUptoRow : OpenClaim := { program := "ytflfdngcgebmmaa", sum := "cb07d978896497ceba78a2ead9deed9b5e8ef72fd91a9d4c7adac16618acf799", func := "loop.example/g00884/laws.FnExactClash", spec := "fnExactClash", apart := false, narrowed := true }
def FnExactClashUptoSaid : Prop := fnExactClashUptoRow.holds Try.pinned (OpenSpec.upto fnExactClashSpec)

/-- 'laws.FnExactContrastOf', WHERE WHAT IT READS IS OF BULK AT MOST 1048576: true; the input reads as it did. -/
def fnExactContrastOfUptoRow : OpenClaim := { program := "ytflfdngcgebmmaa", sum := "cb07d978896497ceba78a2ead9deed9b5e8ef72fd91a9d4c7adac16618acf799", func := "loop.example/g00884/laws.FnExactContrastOf", spec := "fnExactContrastOf", unfollowed := true, recurses := true, apart := false, narrowed := true }
def FnExactContrastOfUptoSaid : Prop := fnExactContrastOfUptoRow.holds Try.pinned (OpenSpec.upto fnExactContrastOfSpec)

/-- 'laws.FnExactTincturesAgainst', WHERE WHAT IT READS IS OF BULK AT MOST 1048576: true; the input reads as it did. -/
def fnExactTincturesAgainstUptoRow : OpenClaim := { program := "ytflfdngcgebmmaa", sum := "cb07d978896497ceba78a2ead9deed9b5e8ef72fd91a9d4c7adac16618acf799", func := "loop.example/g00884/laws.FnExactTincturesAgainst", spec := "fnExactTincturesAgainst", apart := false, narrowed := true }
def FnExactTincturesAgainstUptoSaid : Prop := fnExactTincturesAgainstUptoRow.holds Try.pinned (OpenSpec.upto fnExactTincturesAgainstSpec)

/-- 'laws.FnExactCountTinctures', WHERE WHAT IT READS IS OF BULK AT MOST 1048576: true; the input reads as it did. -/
def fnExactCountTincturesUptoRow : OpenClaim := { program := "ytflfdngcgebmmaa", sum := "cb07d978896497ceba78a2ead9deed9b5e8ef72fd91a9d4c7adac16618acf799", func := "loop.example/g00884/laws.FnExactCountTinctures", spec := "fnExactCountTinctures", apart := false, narrowed := true }
def FnExactCountTincturesUptoSaid : Prop := fnExactCountTincturesUptoRow.holds Try.pinned (OpenSpec.upto fnExactCountTincturesSpec)

/-- 'laws.FnExactFirstOf', WHERE WHAT IT READS IS OF BULK AT MOST 1048576: true; the input reads as it did. -/
def fnExactFirstOfUptoRow : OpenClaim := { program := "ytflfdngcgebmmaa", sum := "cb07d978896497ceba78a2ead9deed9b5e8ef72fd91a9d4c7adac16618acf799", func := "loop.example/g00884/laws.FnExactFirstOf", spec := "fnExactFirstOf", apart := false, narrowed := true }
def FnExactFirstOfUptoSaid : Prop := fnExactFirstOfUptoRow.holds Try.pinned (OpenSpec.upto fnExactFirstOfSpec)

end Rows
end Go.Proofs.Ytflfdngcgebmmaa
