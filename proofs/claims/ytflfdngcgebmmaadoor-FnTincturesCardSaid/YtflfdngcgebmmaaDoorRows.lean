/-
  NARROWER THAN 'FOR EVERY INPUT', by the rows' own cells (each row's printed sentence says how): FnExactTinctureWord: laid · FnExactParseTincture: laid · FnTinctures: laid.
  DERIVED. THE GIVEN ROWS OF THIS SEAT. 3 by the template 'for every input the law returns true; each argument reads behind the call as it read before'; 0 by the template 'total and deterministic' (their statements: YtflfdngcgebmmaaDoorTotals.lean).
  GIVEN WITH THE SEED: the statements are not yours to turn. If you find one false, say at which input.
  Laid BY PROGRAM, IN A SANDBOX (cutbox-rows.mjs): the forced cells as the released guide's own fill.sh prints them over the translation b976143cd3e80ba6… (all of the seat's roots in one cut). By AI agents, Wed Nov 11 2026. No macro, syntax, notation, axiom, sorry.
-/
import Derived.Test.YtflfdngcgebmmaaDoorChecked
import GoSem.Claim
import GoSem.ClaimJoined
import GoSem.ClaimMapViews
import Derived.JoinedTies
import Derived.KernelRfl
namespace Go.Proofs.YtflfdngcgebmmaaDoor
/- THE CELL 'sum', in the pinned program and in every row, IS THE sha256 OF THE DUMP (.gsa) THAT YtflfdngcgebmmaaDoorProg.lean LOADS. Nothing in Lean hashes anything: it is a label: what it is worth is what the hold of that sum in a sandbox is worth. -/
noncomputable def Tryd.pinned : Pinned := { name := "ytflfdngcgebmmaadoor", sum := "b976143cd3e80ba6fc2f55e6da12beb7151cdecf035b6b9ef591bb3414062b3c", checked := Tryd.checked }
namespace Rows
def none {H : Type} : Left H := { results := [], args := [] }

/- WHAT THE LISTED PACKAGE-LEVEL VARIABLES READ AS WHEN THE CALL BEGINS. Each datum BY PROGRAM (the guide's laid-datum.mjs) off the statement by which the dump's own 'gosem.cut.vars' lays the variable. In a bare row this is a premise. The card (YtflfdngcgebmmaaDoorCards.lean) ties it to the program's text. -/
def laid_loop_example_g00884_impl_tinctureWords {H : Type} : DataW H := .agg [.lit (.string [103, 111, 108, 100]), .lit (.string [115, 105, 108, 118, 101, 114]), .lit (.string [114, 101, 100]), .lit (.string [98, 108, 117, 101]), .lit (.string [98, 108, 97, 99, 107]), .lit (.string [103, 114, 101, 101, 110]), .lit (.string [112, 117, 114, 112, 108, 101]), .lit (.string [101, 114, 109, 105, 110, 101]), .lit (.string [118, 97, 105, 114])]

/-- 'laws.FnExactTinctureWord': WHATEVER THE INPUT: true; the input reads as it did. -/
def fnExactTinctureWordSpec : ChangeSpec := { name := "fnExactTinctureWord", vars := ["loop.example/g00884/impl.tinctureWords"], fn := fun _ => fun
  | [d, g1] => { results := [.lit (.bool true)], args := [d], vars := [g1] }
  | _ => none }
def fnExactTinctureWordRow : OpenClaim := { program := "ytflfdngcgebmmaadoor", sum := "b976143cd3e80ba6fc2f55e6da12beb7151cdecf035b6b9ef591bb3414062b3c", func := "loop.example/g00884/laws.FnExactTinctureWord", spec := "fnExactTinctureWord", named := ["loop.example/g00884/impl.tinctureWords"], apart := false, laid := [("loop.example/g00884/impl.tinctureWords", laid_loop_example_g00884_impl_tinctureWords)] }
def FnExactTinctureWordSaid : Prop := fnExactTinctureWordRow.holds Tryd.pinned (OpenSpec.ofChange fnExactTinctureWordSpec)

/-- ITS FALSE NEIGHBOUR: 'it returns false'. Refute it at one input. -/
def fnExactTinctureWordWrong : ChangeSpec := { name := "fnExactTinctureWord", vars := ["loop.example/g00884/impl.tinctureWords"], fn := fun _ => fun
  | [d, g1] => { results := [.lit (.bool false)], args := [d], vars := [g1] }
  | _ => none }
def FnExactTinctureWordWrongFalsely : Prop := fnExactTinctureWordRow.holds Tryd.pinned (OpenSpec.ofChange fnExactTinctureWordWrong)

/-- 'laws.FnExactParseTincture': WHATEVER THE INPUT: true; the input reads as it did. -/
def fnExactParseTinctureSpec : ChangeSpec := { name := "fnExactParseTincture", vars := ["loop.example/g00884/impl.tinctureWords"], fn := fun _ => fun
  | [d, g1] => { results := [.lit (.bool true)], args := [d], vars := [g1] }
  | _ => none }
def fnExactParseTinctureRow : OpenClaim := { program := "ytflfdngcgebmmaadoor", sum := "b976143cd3e80ba6fc2f55e6da12beb7151cdecf035b6b9ef591bb3414062b3c", func := "loop.example/g00884/laws.FnExactParseTincture", spec := "fnExactParseTincture", named := ["loop.example/g00884/impl.tinctureWords"], apart := false, laid := [("loop.example/g00884/impl.tinctureWords", laid_loop_example_g00884_impl_tinctureWords)] }
def FnExactParseTinctureSaid : Prop := fnExactParseTinctureRow.holds Tryd.pinned (OpenSpec.ofChange fnExactParseTinctureSpec)

/-- ITS FALSE NEIGHBOUR: 'it returns false'. Refute it at one input. -/
def fnExactParseTinctureWrong : ChangeSpec := { name := "fnExactParseTincture", vars := ["loop.example/g00884/impl.tinctureWords"], fn := fun _ => fun
  | [d, g1] => { results := [.lit (.bool false)], args := [d], vars := [g1] }
  | _ => none }
def FnExactParseTinctureWrongFalsely : Prop := fnExactParseTinctureRow.holds Tryd.pinned (OpenSpec.ofChange fnExactParseTinctureWrong)

/-- 'laws.FnTinctures': WHATEVER THE INPUT: true; the input reads as it did. -/
def fnTincturesSpec : ChangeSpec := { name := "fnTinctures", vars := ["loop.example/g00884/impl.tinctureWords"], fn := fun _ => fun
  | [d, g1] => { results := [.lit (.bool true)], args := [d], vars := [g1] }
  | _ => none }
def fnTincturesRow : OpenClaim := { program := "ytflfdngcgebmmaadoor", sum := "b976143cd3e80ba6fc2f55e6da12beb7151cdecf035b6b9ef591bb3414062b3c", func := "loop.example/g00884/laws.FnTinctures", spec := "fnTinctures", unfollowed := true, recurses := true, named := ["loop.example/g00884/impl.tinctureWords"], apart := false, laid := [("loop.example/g00884/impl.tinctureWords", laid_loop_example_g00884_impl_tinctureWords)] }
def FnTincturesSaid : Prop := fnTincturesRow.holds Tryd.pinned (OpenSpec.ofChange fnTincturesSpec)

/-- ITS FALSE NEIGHBOUR: 'it returns false'. Refute it at one input. -/
def fnTincturesWrong : ChangeSpec := { name := "fnTinctures", vars := ["loop.example/g00884/impl.tinctureWords"], fn := fun _ => fun
  | [d, g1] => { results := [.lit (.bool false)], args := [d], vars := [g1] }
  | _ => none }
def FnTincturesWrongFalsely : Prop := fnTincturesRow.holds Tryd.pinned (OpenSpec.ofChange fnTincturesWrong)

/- THE SECOND FORM. 'bulk': how many values and letters a reading holds, each counted each time it is reached (what is shared counts as often as it is met; a slice's spare places count too). A statement '..UptoSaid' is the law's where the arguments, and the package variables that the reading takes, are together of bulk at most 1048576: NARROWER than '..Said'. Prove '..Said' where nothing that the law and all that it calls make is longer than what came in: it says more and counts as full. Else prove '..UptoSaid'. A law counts once. -/
mutual
def uptoBulk {H : Type} : DataW H → Nat
  | .lit (.string bytes) => bytes.length + 1
  | .lit _ => 1
  | .nil => 1
  | .ptr d => uptoBulk d + 1
  | .slice elems spare => uptoBulkAll elems + uptoBulkAll spare + 1
  | .agg parts => uptoBulkAll parts + 1
  | .iface _ d => uptoBulk d + 1
  | .map entries => uptoBulkEntries entries + 1
  | .held _ => 1
def uptoBulkAll {H : Type} : List (DataW H) → Nat
  | [] => 0
  | d :: r => uptoBulk d + uptoBulkAll r
def uptoBulkEntries {H : Type} : List (Lit × DataW H) → Nat
  | [] => 0
  | x :: r => uptoBulkEntry x + uptoBulkEntries r
def uptoBulkEntry {H : Type} : Lit × DataW H → Nat
  | (.string bytes, d) => bytes.length + uptoBulk d + 1
  | (_, d) => uptoBulk d + 1
 end
def uptoSmall : (H : Type) → List (DataW H) → Bool := fun _ ds => decide (uptoBulkAll ds ≤ 1048576)
def OpenSpec.upto (s : _root_.Go.ChangeSpec) : _root_.Go.OpenSpec := { _root_.Go.OpenSpec.ofChange s with cond := some uptoSmall }

/-- 'laws.FnExactTinctureWord', WHERE WHAT IT READS IS OF BULK AT MOST 1048576: true; the input reads as it did. -/
def fnExactTinctureWordUptoRow : OpenClaim := { program := "ytflfdngcgebmmaadoor", sum := "b976143cd3e80ba6fc2f55e6da12beb7151cdecf035b6b9ef591bb3414062b3c", func := "loop.example/g00884/laws.FnExactTinctureWord", spec := "fnExactTinctureWord", named := ["loop.example/g00884/impl.tinctureWords"], apart := false, laid := [("loop.example/g00884/impl.tinctureWords", laid_loop_example_g00884_impl_tinctureWords)], narrowed := true }
def FnExactTinctureWordUptoSaid : Prop := fnExactTinctureWordUptoRow.holds Tryd.pinned (OpenSpec.upto fnExactTinctureWordSpec)

/-- 'laws.FnExactParseTincture', WHERE WHAT IT READS IS OF BULK AT MOST 1048576: true; the input reads as it did. -/
def fnExactParseTinctureUptoRow : OpenClaim := { program := "ytflfdngcgebmmaadoor", sum := "b976143cd3e80ba6fc2f55e6da12beb7151cdecf035b6b9ef591bb3414062b3c", func := "loop.example/g00884/laws.FnExactParseTincture", spec := "fnExactParseTincture", named := ["loop.example/g00884/impl.tinctureWords"], apart := false, laid := [("loop.example/g00884/impl.tinctureWords", laid_loop_example_g00884_impl_tinctureWords)], narrowed := true }
def FnExactParseTinctureUptoSaid : Prop := fnExactParseTinctureUptoRow.holds Tryd.pinned (OpenSpec.upto fnExactParseTinctureSpec)

/-- 'laws.FnTinctures', WHERE WHAT IT READS IS OF BULK AT MOST 1048576: true; the input reads as it did. -/
def fnTincturesUptoRow : OpenClaim := { program := "ytflfdngcgebmmaadoor", sum := "b976143cd3e80ba6fc2f55e6da12beb7151cdecf035b6b9ef591bb3414062b3c", func := "loop.example/g00884/laws.FnTinctures", spec := "fnTinctures", unfollowed := true, recurses := true, named := ["loop.example/g00884/impl.tinctureWords"], apart := false, laid := [("loop.example/g00884/impl.tinctureWords", laid_loop_example_g00884_impl_tinctureWords)], narrowed := true }
def FnTincturesUptoSaid : Prop := fnTincturesUptoRow.holds Tryd.pinned (OpenSpec.upto fnTincturesSpec)

end Rows
end Go.Proofs.YtflfdngcgebmmaaDoor
