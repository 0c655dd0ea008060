/-
  DERIVED. GIVEN WITH THE SEED: THE PROGRAM's TIES (one call each: nine closed facts by the kernel) AND EACH ROW's TIE, after the 31st guide's Derived/Test/Toyas{Tie, Card}.lean. No idea stands in it: it is a product of the set-up. Laid BY PROGRAM, IN A SANDBOX (cutbox-door.mjs). By AI agents, Wed Nov 11 2026. No macro, syntax, notation, axiom, sorry.
-/
import Derived.Test.YtgoelkgdjnhklaaDoorRows
import Derived.LaidByTextLater
import Derived.SevenTiedAt
import Derived.LaidSub
import Derived.LaidOnce
namespace Go.Proofs.YtgoelkgdjnhklaaDoor
open Go
set_option maxRecDepth 100000
theorem seatTie1 : Tryd.prog.laidByTextLater [("loop.example/g00884/impl.tinctureWords", Rows.laid_loop_example_g00884_impl_tinctureWords), ("loop.example/g00884/impl.divisionWords", Rows.laid_loop_example_g00884_impl_divisionWords), ("loop.example/g00884/impl.lineWords", Rows.laid_loop_example_g00884_impl_lineWords), ("loop.example/g00884/impl.countWords", Rows.laid_loop_example_g00884_impl_countWords), ("loop.example/g00884/impl.kindWords", Rows.laid_loop_example_g00884_impl_kindWords), ("loop.example/g00884/impl.attitudeWords", Rows.laid_loop_example_g00884_impl_attitudeWords), ("loop.example/g00884/impl.ordinaryWords", Rows.laid_loop_example_g00884_impl_ordinaryWords), ("loop.example/g00884/impl.findingStarts", Rows.laid_loop_example_g00884_impl_findingStarts)] [.data, .widerDeep, .widerDeep, .widerDeep, .widerDeep, .widerDeep, .widerDeep, .widerDeep] true :=
  Program.laidByTextLater_by_one 52 8 10 (by kernel_rfl) (by kernel_rfl) (by kernel_rfl) (by kernel_rfl) (by kernel_rfl) (by kernel_rfl) (fun _ _ => by kernel_rfl)
theorem noOwnUnsafe : Tryd.pinned.checked.prog.headLifts.contains "ownunsafe" = false := by kernel_rfl
theorem tie : Tryd.prog.laidByTextLater [("loop.example/g00884/impl.tinctureWords", Rows.laid_loop_example_g00884_impl_tinctureWords), ("loop.example/g00884/impl.divisionWords", Rows.laid_loop_example_g00884_impl_divisionWords), ("loop.example/g00884/impl.lineWords", Rows.laid_loop_example_g00884_impl_lineWords), ("loop.example/g00884/impl.countWords", Rows.laid_loop_example_g00884_impl_countWords), ("loop.example/g00884/impl.kindWords", Rows.laid_loop_example_g00884_impl_kindWords), ("loop.example/g00884/impl.attitudeWords", Rows.laid_loop_example_g00884_impl_attitudeWords), ("loop.example/g00884/impl.ordinaryWords", Rows.laid_loop_example_g00884_impl_ordinaryWords)] [.data, .widerDeep, .widerDeep, .widerDeep, .widerDeep, .widerDeep, .widerDeep] true :=
  Program.laidByTextLater.sub seatTie1 ["loop.example/g00884/impl.tinctureWords", "loop.example/g00884/impl.divisionWords", "loop.example/g00884/impl.lineWords", "loop.example/g00884/impl.countWords", "loop.example/g00884/impl.kindWords", "loop.example/g00884/impl.attitudeWords", "loop.example/g00884/impl.ordinaryWords"] (by kernel_rfl) (by kernel_rfl)
theorem fnOrder_row_tie : Rows.fnOrderRow.laidByTextAt .later Tryd.pinned [.data, .widerDeep, .widerDeep, .widerDeep, .widerDeep, .widerDeep, .widerDeep] true :=
  OpenClaim.laidByTextAt_later rfl rfl tie noOwnUnsafe
theorem fnExactSortArms_row_tie : Rows.fnExactSortArmsRow.laidByTextAt .later Tryd.pinned [.data, .widerDeep, .widerDeep, .widerDeep, .widerDeep, .widerDeep, .widerDeep] true :=
  OpenClaim.laidByTextAt_later rfl rfl tie noOwnUnsafe
theorem tie2 : Tryd.prog.laidByTextLater [("loop.example/g00884/impl.tinctureWords", Rows.laid_loop_example_g00884_impl_tinctureWords), ("loop.example/g00884/impl.attitudeWords", Rows.laid_loop_example_g00884_impl_attitudeWords), ("loop.example/g00884/impl.findingStarts", Rows.laid_loop_example_g00884_impl_findingStarts)] [.data, .widerDeep, .widerDeep] true :=
  Program.laidByTextLater.sub seatTie1 ["loop.example/g00884/impl.tinctureWords", "loop.example/g00884/impl.attitudeWords", "loop.example/g00884/impl.findingStarts"] (by kernel_rfl) (by kernel_rfl)
theorem fnRules_row_tie : Rows.fnRulesRow.laidByTextAt .later Tryd.pinned [.data, .widerDeep, .widerDeep] true :=
  OpenClaim.laidByTextAt_later rfl rfl tie2 noOwnUnsafe
theorem tie3 : Tryd.prog.laidByTextLater [("loop.example/g00884/impl.attitudeWords", Rows.laid_loop_example_g00884_impl_attitudeWords)] [.widerDeep] true :=
  Program.laidByTextLater.sub seatTie1 ["loop.example/g00884/impl.attitudeWords"] (by kernel_rfl) (by kernel_rfl)
theorem fnAllowed_row_tie : Rows.fnAllowedRow.laidByTextAt .later Tryd.pinned [.widerDeep] true :=
  OpenClaim.laidByTextAt_later rfl rfl tie3 noOwnUnsafe
theorem fnExactRuleFindings_row_tie : Rows.fnExactRuleFindingsRow.laidByTextAt .later Tryd.pinned [.widerDeep] true :=
  OpenClaim.laidByTextAt_later rfl rfl tie3 noOwnUnsafe
theorem fnExactKeepsRules_row_tie : Rows.fnExactKeepsRulesRow.laidByTextAt .later Tryd.pinned [.widerDeep] true :=
  OpenClaim.laidByTextAt_later rfl rfl tie3 noOwnUnsafe
theorem fnExactLenientFindings_row_tie : Rows.fnExactLenientFindingsRow.laidByTextAt .later Tryd.pinned [.widerDeep] true :=
  OpenClaim.laidByTextAt_later rfl rfl tie3 noOwnUnsafe
theorem fnExactAllowedAt_row_tie : Rows.fnExactAllowedAtRow.laidByTextAt .later Tryd.pinned [.widerDeep] true :=
  OpenClaim.laidByTextAt_later rfl rfl tie3 noOwnUnsafe
theorem fnExactRepairArms_row_tie : Rows.fnExactRepairArmsRow.laidByTextAt .later Tryd.pinned [.widerDeep] true :=
  OpenClaim.laidByTextAt_later rfl rfl tie3 noOwnUnsafe
theorem tie4 : Tryd.prog.laidByTextLater [("loop.example/g00884/impl.tinctureWords", Rows.laid_loop_example_g00884_impl_tinctureWords), ("loop.example/g00884/impl.findingStarts", Rows.laid_loop_example_g00884_impl_findingStarts)] [.data, .widerDeep] true :=
  Program.laidByTextLater.sub seatTie1 ["loop.example/g00884/impl.tinctureWords", "loop.example/g00884/impl.findingStarts"] (by kernel_rfl) (by kernel_rfl)
theorem fnExactFindingText_row_tie : Rows.fnExactFindingTextRow.laidByTextAt .later Tryd.pinned [.data, .widerDeep] true :=
  OpenClaim.laidByTextAt_later rfl rfl tie4 noOwnUnsafe
theorem fnExactParseFinding_row_tie : Rows.fnExactParseFindingRow.laidByTextAt .later Tryd.pinned [.data, .widerDeep] true :=
  OpenClaim.laidByTextAt_later rfl rfl tie4 noOwnUnsafe
theorem fnOrderUpto_row_tie : Rows.fnOrderUptoRow.laidByTextAt .later Tryd.pinned [.data, .widerDeep, .widerDeep, .widerDeep, .widerDeep, .widerDeep, .widerDeep] true :=
  OpenClaim.laidByTextAt_later rfl rfl tie noOwnUnsafe
theorem fnRulesUpto_row_tie : Rows.fnRulesUptoRow.laidByTextAt .later Tryd.pinned [.data, .widerDeep, .widerDeep] true :=
  OpenClaim.laidByTextAt_later rfl rfl tie2 noOwnUnsafe
theorem fnAllowedUpto_row_tie : Rows.fnAllowedUptoRow.laidByTextAt .later Tryd.pinned [.widerDeep] true :=
  OpenClaim.laidByTextAt_later rfl rfl tie3 noOwnUnsafe
theorem fnExactSortArmsUpto_row_tie : Rows.fnExactSortArmsUptoRow.laidByTextAt .later Tryd.pinned [.data, .widerDeep, .widerDeep, .widerDeep, .widerDeep, .widerDeep, .widerDeep] true :=
  OpenClaim.laidByTextAt_later rfl rfl tie noOwnUnsafe
theorem fnExactRuleFindingsUpto_row_tie : Rows.fnExactRuleFindingsUptoRow.laidByTextAt .later Tryd.pinned [.widerDeep] true :=
  OpenClaim.laidByTextAt_later rfl rfl tie3 noOwnUnsafe
theorem fnExactKeepsRulesUpto_row_tie : Rows.fnExactKeepsRulesUptoRow.laidByTextAt .later Tryd.pinned [.widerDeep] true :=
  OpenClaim.laidByTextAt_later rfl rfl tie3 noOwnUnsafe
theorem fnExactLenientFindingsUpto_row_tie : Rows.fnExactLenientFindingsUptoRow.laidByTextAt .later Tryd.pinned [.widerDeep] true :=
  OpenClaim.laidByTextAt_later rfl rfl tie3 noOwnUnsafe
theorem fnExactFindingTextUpto_row_tie : Rows.fnExactFindingTextUptoRow.laidByTextAt .later Tryd.pinned [.data, .widerDeep] true :=
  OpenClaim.laidByTextAt_later rfl rfl tie4 noOwnUnsafe
theorem fnExactParseFindingUpto_row_tie : Rows.fnExactParseFindingUptoRow.laidByTextAt .later Tryd.pinned [.data, .widerDeep] true :=
  OpenClaim.laidByTextAt_later rfl rfl tie4 noOwnUnsafe
theorem fnExactAllowedAtUpto_row_tie : Rows.fnExactAllowedAtUptoRow.laidByTextAt .later Tryd.pinned [.widerDeep] true :=
  OpenClaim.laidByTextAt_later rfl rfl tie3 noOwnUnsafe
theorem fnExactRepairArmsUpto_row_tie : Rows.fnExactRepairArmsUptoRow.laidByTextAt .later Tryd.pinned [.widerDeep] true :=
  OpenClaim.laidByTextAt_later rfl rfl tie3 noOwnUnsafe
end Go.Proofs.YtgoelkgdjnhklaaDoor
