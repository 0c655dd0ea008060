/-
  No cell of these rows narrows 'for every input' (looked for: loops, veiled, ifaces, maps, wideKeys, modest, calm, conditions, laid).
  DERIVED. THE GIVEN ROWS OF THIS SEAT. 10 by the template 'for every input the law returns true; each argument reads behind the call as it read before'; 0 by the template 'total and deterministic' (their statements: YtmmbhglmafnfpaaTotals.lean).
  GIVEN WITH THE SEED: the statements are not yours to turn. If you find one false, say at which input.
  Laid BY PROGRAM, IN A SANDBOX (cutbox-rows.mjs): the forced cells as the released guide's own fill.sh prints them over the translation 2eab5e0ef42562ad… (all of the seat's roots in one cut). By AI agents, Wed Nov 11 2026. No macro, syntax, notation, axiom, sorry.
-/
import Derived.Test.YtmmbhglmafnfpaaChecked
import GoSem.Claim
import GoSem.ClaimJoined
import GoSem.ClaimMapViews
import Derived.JoinedTies
import Derived.KernelRfl
namespace Go.Proofs.Ytmmbhglmafnfpaa
/- THE CELL 'sum', in the pinned program and in every row, IS THE sha256 OF THE DUMP (.gsa) THAT YtmmbhglmafnfpaaProg.lean LOADS. Nothing in Lean hashes anything: it is a label: what it is worth is what the hold of that sum in a sandbox is worth. -/
noncomputable def Try.pinned : Pinned := { name := "ytmmbhglmafnfpaa", sum := "2eab5e0ef42562ad6278881d0f3eb3cb33cd595c90463901c30574d9385c170a", checked := Try.checked }
namespace Rows
def none {H : Type} : Left H := { results := [], args := [] }

/-- 'laws.FnExactInShield': WHATEVER THE INPUT: true; the input reads as it did. -/
def fnExactInShieldSpec : ChangeSpec := { name := "fnExactInShield", fn := fun _ => fun
  | [d1, d2] => { results := [.lit (.bool true)], args := [d1, d2] }
  | _ => none }
def fnExactInShieldRow : OpenClaim := { program := "ytmmbhglmafnfpaa", sum := "2eab5e0ef42562ad6278881d0f3eb3cb33cd595c90463901c30574d9385c170a", func := "loop.example/g00884/laws.FnExactInShield", spec := "fnExactInShield", apart := false }
def FnExactInShieldSaid : Prop := fnExactInShieldRow.holds Try.pinned (OpenSpec.ofChange fnExactInShieldSpec)

/-- ITS FALSE NEIGHBOUR: 'it returns false'. Refute it at one input. -/
def fnExactInShieldWrong : ChangeSpec := { name := "fnExactInShield", fn := fun _ => fun
  | [d1, d2] => { results := [.lit (.bool false)], args := [d1, d2] }
  | _ => none }
def FnExactInShieldWrongFalsely : Prop := fnExactInShieldRow.holds Try.pinned (OpenSpec.ofChange fnExactInShieldWrong)

/-- 'laws.FnExactIsValidRegion': WHATEVER THE INPUT: true; the input reads as it did. -/
def fnExactIsValidRegionSpec : ChangeSpec := { name := "fnExactIsValidRegion", fn := fun _ => fun
  | [d] => { results := [.lit (.bool true)], args := [d] }
  | _ => none }
def fnExactIsValidRegionRow : OpenClaim := { program := "ytmmbhglmafnfpaa", sum := "2eab5e0ef42562ad6278881d0f3eb3cb33cd595c90463901c30574d9385c170a", func := "loop.example/g00884/laws.FnExactIsValidRegion", spec := "fnExactIsValidRegion", unfollowed := true, recurses := true, apart := false }
def FnExactIsValidRegionSaid : Prop := fnExactIsValidRegionRow.holds Try.pinned (OpenSpec.ofChange fnExactIsValidRegionSpec)

/-- ITS FALSE NEIGHBOUR: 'it returns false'. Refute it at one input. -/
def fnExactIsValidRegionWrong : ChangeSpec := { name := "fnExactIsValidRegion", fn := fun _ => fun
  | [d] => { results := [.lit (.bool false)], args := [d] }
  | _ => none }
def FnExactIsValidRegionWrongFalsely : Prop := fnExactIsValidRegionRow.holds Try.pinned (OpenSpec.ofChange fnExactIsValidRegionWrong)

/-- 'laws.FnExactShieldRegion': WHATEVER THE INPUT: true; the input reads as it did. -/
def fnExactShieldRegionSpec : ChangeSpec := { name := "fnExactShieldRegion", fn := fun _ => fun
  | [] => { results := [.lit (.bool true)], args := [] }
  | _ => none }
def fnExactShieldRegionRow : OpenClaim := { program := "ytmmbhglmafnfpaa", sum := "2eab5e0ef42562ad6278881d0f3eb3cb33cd595c90463901c30574d9385c170a", func := "loop.example/g00884/laws.FnExactShieldRegion", spec := "fnExactShieldRegion", unfollowed := true, recurses := true, apart := false }
def FnExactShieldRegionSaid : Prop := fnExactShieldRegionRow.holds Try.pinned (OpenSpec.ofChange fnExactShieldRegionSpec)

/-- ITS FALSE NEIGHBOUR: 'it returns false'. Refute it at one input. -/
def fnExactShieldRegionWrong : ChangeSpec := { name := "fnExactShieldRegion", fn := fun _ => fun
  | [] => { results := [.lit (.bool false)], args := [] }
  | _ => none }
def FnExactShieldRegionWrongFalsely : Prop := fnExactShieldRegionRow.holds Try.pinned (OpenSpec.ofChange fnExactShieldRegionWrong)

/-- 'laws.FnExactPartRegion': WHATEVER THE INPUT: true; the input reads as it did. -/
def fnExactPartRegionSpec : ChangeSpec := { name := "fnExactPartRegion", fn := fun _ => fun
  | [d1, d2] => { results := [.lit (.bool true)], args := [d1, d2] }
  | _ => none }
def fnExactPartRegionRow : OpenClaim := { program := "ytmmbhglmafnfpaa", sum := "2eab5e0ef42562ad6278881d0f3eb3cb33cd595c90463901c30574d9385c170a", func := "loop.example/g00884/laws.FnExactPartRegion", spec := "fnExactPartRegion", unfollowed := true, recurses := true, apart := false }
def FnExactPartRegionSaid : Prop := fnExactPartRegionRow.holds Try.pinned (OpenSpec.ofChange fnExactPartRegionSpec)

/-- ITS FALSE NEIGHBOUR: 'it returns false'. Refute it at one input. -/
def fnExactPartRegionWrong : ChangeSpec := { name := "fnExactPartRegion", fn := fun _ => fun
  | [d1, d2] => { results := [.lit (.bool false)], args := [d1, d2] }
  | _ => none }
def FnExactPartRegionWrongFalsely : Prop := fnExactPartRegionRow.holds Try.pinned (OpenSpec.ofChange fnExactPartRegionWrong)

/-- 'laws.FnExactOrdinaryCells': WHATEVER THE INPUT: true; the input reads as it did. -/
def fnExactOrdinaryCellsSpec : ChangeSpec := { name := "fnExactOrdinaryCells", fn := fun _ => fun
  | [d] => { results := [.lit (.bool true)], args := [d] }
  | _ => none }
def fnExactOrdinaryCellsRow : OpenClaim := { program := "ytmmbhglmafnfpaa", sum := "2eab5e0ef42562ad6278881d0f3eb3cb33cd595c90463901c30574d9385c170a", func := "loop.example/g00884/laws.FnExactOrdinaryCells", spec := "fnExactOrdinaryCells", unfollowed := true, recurses := true, apart := false }
def FnExactOrdinaryCellsSaid : Prop := fnExactOrdinaryCellsRow.holds Try.pinned (OpenSpec.ofChange fnExactOrdinaryCellsSpec)

/-- ITS FALSE NEIGHBOUR: 'it returns false'. Refute it at one input. -/
def fnExactOrdinaryCellsWrong : ChangeSpec := { name := "fnExactOrdinaryCells", fn := fun _ => fun
  | [d] => { results := [.lit (.bool false)], args := [d] }
  | _ => none }
def FnExactOrdinaryCellsWrongFalsely : Prop := fnExactOrdinaryCellsRow.holds Try.pinned (OpenSpec.ofChange fnExactOrdinaryCellsWrong)

/-- 'laws.FnExactCombineRegions': WHATEVER THE INPUT: true; the input reads as it did. -/
def fnExactCombineRegionsSpec : ChangeSpec := { name := "fnExactCombineRegions", fn := fun _ => fun
  | [d1, d2, d3] => { results := [.lit (.bool true)], args := [d1, d2, d3] }
  | _ => none }
def fnExactCombineRegionsRow : OpenClaim := { program := "ytmmbhglmafnfpaa", sum := "2eab5e0ef42562ad6278881d0f3eb3cb33cd595c90463901c30574d9385c170a", func := "loop.example/g00884/laws.FnExactCombineRegions", spec := "fnExactCombineRegions", unfollowed := true, recurses := true, apart := false }
def FnExactCombineRegionsSaid : Prop := fnExactCombineRegionsRow.holds Try.pinned (OpenSpec.ofChange fnExactCombineRegionsSpec)

/-- ITS FALSE NEIGHBOUR: 'it returns false'. Refute it at one input. -/
def fnExactCombineRegionsWrong : ChangeSpec := { name := "fnExactCombineRegions", fn := fun _ => fun
  | [d1, d2, d3] => { results := [.lit (.bool false)], args := [d1, d2, d3] }
  | _ => none }
def FnExactCombineRegionsWrongFalsely : Prop := fnExactCombineRegionsRow.holds Try.pinned (OpenSpec.ofChange fnExactCombineRegionsWrong)

/-- 'laws.FnExactAreaOf': WHATEVER THE INPUT: true; the input reads as it did. -/
def fnExactAreaOfSpec : ChangeSpec := { name := "fnExactAreaOf", fn := fun _ => fun
  | [d] => { results := [.lit (.bool true)], args := [d] }
  | _ => none }
def fnExactAreaOfRow : OpenClaim := { program := "ytmmbhglmafnfpaa", sum := "2eab5e0ef42562ad6278881d0f3eb3cb33cd595c90463901c30574d9385c170a", func := "loop.example/g00884/laws.FnExactAreaOf", spec := "fnExactAreaOf", unfollowed := true, recurses := true, apart := false }
def FnExactAreaOfSaid : Prop := fnExactAreaOfRow.holds Try.pinned (OpenSpec.ofChange fnExactAreaOfSpec)

/-- ITS FALSE NEIGHBOUR: 'it returns false'. Refute it at one input. -/
def fnExactAreaOfWrong : ChangeSpec := { name := "fnExactAreaOf", fn := fun _ => fun
  | [d] => { results := [.lit (.bool false)], args := [d] }
  | _ => none }
def FnExactAreaOfWrongFalsely : Prop := fnExactAreaOfRow.holds Try.pinned (OpenSpec.ofChange fnExactAreaOfWrong)

/-- 'laws.FnExactPiecesOf': WHATEVER THE INPUT: true; the input reads as it did. -/
def fnExactPiecesOfSpec : ChangeSpec := { name := "fnExactPiecesOf", fn := fun _ => fun
  | [d] => { results := [.lit (.bool true)], args := [d] }
  | _ => none }
def fnExactPiecesOfRow : OpenClaim := { program := "ytmmbhglmafnfpaa", sum := "2eab5e0ef42562ad6278881d0f3eb3cb33cd595c90463901c30574d9385c170a", func := "loop.example/g00884/laws.FnExactPiecesOf", spec := "fnExactPiecesOf", unfollowed := true, recurses := true, apart := false }
def FnExactPiecesOfSaid : Prop := fnExactPiecesOfRow.holds Try.pinned (OpenSpec.ofChange fnExactPiecesOfSpec)

/-- ITS FALSE NEIGHBOUR: 'it returns false'. Refute it at one input. -/
def fnExactPiecesOfWrong : ChangeSpec := { name := "fnExactPiecesOf", fn := fun _ => fun
  | [d] => { results := [.lit (.bool false)], args := [d] }
  | _ => none }
def FnExactPiecesOfWrongFalsely : Prop := fnExactPiecesOfRow.holds Try.pinned (OpenSpec.ofChange fnExactPiecesOfWrong)

/-- 'laws.FnExactEdgeLength': WHATEVER THE INPUT: true; the input reads as it did. -/
def fnExactEdgeLengthSpec : ChangeSpec := { name := "fnExactEdgeLength", fn := fun _ => fun
  | [d] => { results := [.lit (.bool true)], args := [d] }
  | _ => none }
def fnExactEdgeLengthRow : OpenClaim := { program := "ytmmbhglmafnfpaa", sum := "2eab5e0ef42562ad6278881d0f3eb3cb33cd595c90463901c30574d9385c170a", func := "loop.example/g00884/laws.FnExactEdgeLength", spec := "fnExactEdgeLength", unfollowed := true, recurses := true, apart := false }
def FnExactEdgeLengthSaid : Prop := fnExactEdgeLengthRow.holds Try.pinned (OpenSpec.ofChange fnExactEdgeLengthSpec)

/-- ITS FALSE NEIGHBOUR: 'it returns false'. Refute it at one input. -/
def fnExactEdgeLengthWrong : ChangeSpec := { name := "fnExactEdgeLength", fn := fun _ => fun
  | [d] => { results := [.lit (.bool false)], args := [d] }
  | _ => none }
def FnExactEdgeLengthWrongFalsely : Prop := fnExactEdgeLengthRow.holds Try.pinned (OpenSpec.ofChange fnExactEdgeLengthWrong)

/-- 'laws.FnParts': WHATEVER THE INPUT: true; the input reads as it did. -/
def fnPartsSpec : ChangeSpec := { name := "fnParts", fn := fun _ => fun
  | [d] => { results := [.lit (.bool true)], args := [d] }
  | _ => none }
def fnPartsRow : OpenClaim := { program := "ytmmbhglmafnfpaa", sum := "2eab5e0ef42562ad6278881d0f3eb3cb33cd595c90463901c30574d9385c170a", func := "loop.example/g00884/laws.FnParts", spec := "fnParts", unfollowed := true, recurses := true, apart := false }
def FnPartsSaid : Prop := fnPartsRow.holds Try.pinned (OpenSpec.ofChange fnPartsSpec)

/-- ITS FALSE NEIGHBOUR: 'it returns false'. Refute it at one input. -/
def fnPartsWrong : ChangeSpec := { name := "fnParts", fn := fun _ => fun
  | [d] => { results := [.lit (.bool false)], args := [d] }
  | _ => none }
def FnPartsWrongFalsely : Prop := fnPartsRow.holds Try.pinned (OpenSpec.ofChange fnPartsWrong)

/- THE SECOND FORM. 'bulk': how many values and letters a reading holds, each counted each time it is reached (what is shared counts as often as it is met; a slice's spare places count too). A statement '..UptoSaid' is the law's where the arguments, and the package variables that the reading takes, are together of bulk at most 1048576: NARROWER than '..Said'. Prove '..Said' where nothing that the law and all that it calls make is longer than what came in: it says more and counts as full. Else prove '..UptoSaid'. A law counts once. -/
mutual
def uptoBulk {H : Type} : DataW H → Nat
  | .lit (.string bytes) => bytes.length + 1
  | .lit _ => 1
  | .nil => 1
  | .ptr d => uptoBulk d + 1
  | .slice elems spare => uptoBulkAll elems + uptoBulkAll spare + 1
  | .agg parts => uptoBulkAll parts + 1
  | .iface _ d => uptoBulk d + 1
  | .map entries => uptoBulkEntries entries + 1
  | .held _ => 1
def uptoBulkAll {H : Type} : List (DataW H) → Nat
  | [] => 0
  | d :: r => uptoBulk d + uptoBulkAll r
def uptoBulkEntries {H : Type} : List (Lit × DataW H) → Nat
  | [] => 0
  | x :: r => uptoBulkEntry x + uptoBulkEntries r
def uptoBulkEntry {H : Type} : Lit × DataW H → Nat
  | (.string bytes, d) => bytes.length + uptoBulk d + 1
  | (_, d) => uptoBulk d + 1
 end
def uptoSmall : (H : Type) → List (DataW H) → Bool := fun _ ds => decide (uptoBulkAll ds ≤ 1048576)
def OpenSpec.upto (s : _root_.Go.ChangeSpec) : _root_.Go.OpenSpec := { _root_.Go.OpenSpec.ofChange s with cond := some uptoSmall }

/-- 'laws.FnExactInShield', WHERE WHAT IT READS IS OF BULK AT MOST 1048576: true; the input reads as it did. -/
def fnExactInShieldUptoRow : OpenClaim := { program := "ytmmbhglmafnfpaa", sum := "2eab5e0ef42562ad6278881d0f3eb3cb33cd595c90463901c30574d9385c170a", func := "loop.example/g00884/laws.FnExactInShield", spec := "fnExactInShield", apart := false, narrowed := true }
def FnExactInShieldUptoSaid : Prop := fnExactInShieldUptoRow.holds Try.pinned (OpenSpec.upto fnExactInShieldSpec)

/-- 'laws.FnExactIsValidRegion', WHERE WHAT IT READS IS OF BULK AT MOST 1048576: true; the input reads as it did. -/
def fnExactIsValidRegionUptoRow : OpenClaim := { program := "ytmmbhglmafnfpaa", sum := "2eab5e0ef42562ad6278881d0f3eb3cb33cd595c90463901c30574d9385c170a", func := "loop.example/g00884/laws.FnExactIsValidRegion", spec := "fnExactIsValidRegion", unfollowed := true, recurses := true, apart := false, narrowed := true }
def FnExactIsValidRegionUptoSaid : Prop := fnExactIsValidRegionUptoRow.holds Try.pinned (OpenSpec.upto fnExactIsValidRegionSpec)

/-- 'laws.FnExactShieldRegion', WHERE WHAT IT READS IS OF BULK AT MOST 1048576: true; the input reads as it did. -/
def fnExactShieldRegionUptoRow : OpenClaim := { program := "ytmmbhglmafnfpaa", sum := "2eab5e0ef42562ad6278881d0f3eb3cb33cd595c90463901c30574d9385c170a", func := "loop.example/g00884/laws.FnExactShieldRegion", spec := "fnExactShieldRegion", unfollowed := true, recurses := true, apart := false, narrowed := true }
def FnExactShieldRegionUptoSaid : Prop := fnExactShieldRegionUptoRow.holds Try.pinned (OpenSpec.upto fnExactShieldRegionSpec)

/-- 'laws.FnExactPartRegion', WHERE WHAT IT READS IS OF BULK AT MOST 1048576: true; the input reads as it did. -/
def fnExactPartRegionUptoRow : OpenClaim := { program := "ytmmbhglmafnfpaa", sum := "2eab5e0ef42562ad6278881d0f3eb3cb33cd595c90463901c30574d9385c170a", func := "loop.example/g00884/laws.FnExactPartRegion", spec := "fnExactPartRegion", unfollowed := true, recurses := true, apart := false, narrowed := true }
def FnExactPartRegionUptoSaid : Prop := fnExactPartRegionUptoRow.holds Try.pinned (OpenSpec.upto fnExactPartRegionSpec)

/-- 'laws.FnExactOrdinaryCells', WHERE WHAT IT READS IS OF BULK AT MOST 1048576: true; the input reads as it did. -/
def fnExactOrdinaryCellsUptoRow : OpenClaim := { program := "ytmmbhglmafnfpaa", sum := "2eab5e0ef42562ad6278881d0f3eb3cb33cd595c90463901c30574d9385c170a", func := "loop.example/g00884/laws.FnExactOrdinaryCells", spec := "fnExactOrdinaryCells", unfollowed := true, recurses := true, apart := false, narrowed := true }
def FnExactOrdinaryCellsUptoSaid : Prop := fnExactOrdinaryCellsUptoRow.holds Try.pinned (OpenSpec.upto fnExactOrdinaryCellsSpec)

/-- 'laws.FnExactCombineRegions', WHERE WHAT IT READS IS OF BULK AT MOST 1048576: true; the input reads as it did. -/
def fnExactCombineRegionsUptoRow : OpenClaim := { program := "ytmmbhglmafnfpaa", sum := "2eab5e0ef42562ad6278881d0f3eb3cb33cd595c90463901c30574d9385c170a", func := "loop.example/g00884/laws.FnExactCombineRegions", spec := "fnExactCombineRegions", unfollowed := true, recurses := true, apart := false, narrowed := true }
def FnExactCombineRegionsUptoSaid : Prop := fnExactCombineRegionsUptoRow.holds Try.pinned (OpenSpec.upto fnExactCombineRegionsSpec)

/-- 'laws.FnExactAreaOf', WHERE WHAT IT READS IS OF BULK AT MOST 1048576: true; the input reads as it did. -/
def fnExactAreaOfUptoRow : OpenClaim := { program := "ytmmbhglmafnfpaa", sum := "2eab5e0ef42562ad6278881d0f3eb3cb33cd595c90463901c30574d9385c170a", func := "loop.example/g00884/laws.FnExactAreaOf", spec := "fnExactAreaOf", unfollowed := true, recurses := true, apart := false, narrowed := true }
def FnExactAreaOfUptoSaid : Prop := fnExactAreaOfUptoRow.holds Try.pinned (OpenSpec.upto fnExactAreaOfSpec)

/-- 'laws.FnExactPiecesOf', WHERE WHAT IT READS IS OF BULK AT MOST 1048576: true; the input reads as it did. -/
def fnExactPiecesOfUptoRow : OpenClaim := { program := "ytmmbhglmafnfpaa", sum := "2eab5e0ef42562ad6278881d0f3eb3cb33cd595c90463901c30574d9385c170a", func := "loop.example/g00884/laws.FnExactPiecesOf", spec := "fnExactPiecesOf", unfollowed := true, recurses := true, apart := false, narrowed := true }
def FnExactPiecesOfUptoSaid : Prop := fnExactPiecesOfUptoRow.holds Try.pinned (OpenSpec.upto fnExactPiecesOfSpec)

/-- 'laws.FnExactEdgeLength', WHERE WHAT IT READS IS OF BULK AT MOST 1048576: true; the input reads as it did. -/
def fnExactEdgeLengthUptoRow : OpenClaim := { program := "ytmmbhglmafnfpaa", sum := "2eab5e0ef42562ad6278881d0f3eb3cb33cd595c90463901c30574d9385c170a", func := "loop.example/g00884/laws.FnExactEdgeLength", spec := "fnExactEdgeLength", unfollowed := true, recurses := true, apart := false, narrowed := true }
def FnExactEdgeLengthUptoSaid : Prop := fnExactEdgeLengthUptoRow.holds Try.pinned (OpenSpec.upto fnExactEdgeLengthSpec)

/-- 'laws.FnParts', WHERE WHAT IT READS IS OF BULK AT MOST 1048576: true; the input reads as it did. -/
def fnPartsUptoRow : OpenClaim := { program := "ytmmbhglmafnfpaa", sum := "2eab5e0ef42562ad6278881d0f3eb3cb33cd595c90463901c30574d9385c170a", func := "loop.example/g00884/laws.FnParts", spec := "fnParts", unfollowed := true, recurses := true, apart := false, narrowed := true }
def FnPartsUptoSaid : Prop := fnPartsUptoRow.holds Try.pinned (OpenSpec.upto fnPartsSpec)

end Rows
end Go.Proofs.Ytmmbhglmafnfpaa
