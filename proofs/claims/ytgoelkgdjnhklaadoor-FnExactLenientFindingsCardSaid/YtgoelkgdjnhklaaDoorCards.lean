/-
  DERIVED. GIVEN WITH THE SEED: THE CARDS: each row of YtgoelkgdjnhklaaDoorRows.lean that lists a variable, with what it lists TIED to the program's text (the seventh form; the later family's looks); each row that meets fmt, with fmt's text TOLD by the authors' own Lean function (tested against real Go, not proved from fmt's source: count such statements apart). THE CARD IS WHAT COUNTS. Prove the row's statement (the work); the ties are given (YtgoelkgdjnhklaaDoorTie.lean); close each card by the builder's one call (the guide's Derived/Test/ToyasCard.lean, 'card_holds'). Laid BY PROGRAM, IN A SANDBOX (cutbox-door.mjs). By AI agents, Wed Nov 11 2026. No macro, syntax, notation, axiom, sorry.
-/
import Derived.Test.YtgoelkgdjnhklaaDoorRows
import GoSem.ClaimSeven
namespace Go.Proofs.YtgoelkgdjnhklaaDoor
namespace Rows

/-- THE TIED CARD OF 'laws.FnOrder'. -/
def fnOrderCard : Claim7 := { stood := { row := fnOrderRow, standIns := [], harness := (true, "e4408f4ede5ec6f8c1c13af787bb5d3b18a6a4432b9bbd0dbd0e59aeefa9dca4"), looks := true }, kinds := [], alts := [], laidByText := true, laidKinds := [.data, .widerDeep, .widerDeep, .widerDeep, .widerDeep, .widerDeep, .widerDeep], laidTests := true, laidLooks := .later }
def FnOrderCardSaid : Prop := Claim7.holds Tryd.pinned (.plain (OpenSpec.ofChange fnOrderSpec)) fnOrderCard

/-- THE TIED CARD OF 'laws.FnRules'. -/
def fnRulesCard : Claim7 := { stood := { row := fnRulesRow, standIns := [], harness := (true, "e4408f4ede5ec6f8c1c13af787bb5d3b18a6a4432b9bbd0dbd0e59aeefa9dca4"), looks := true }, kinds := [], alts := [], laidByText := true, laidKinds := [.data, .widerDeep, .widerDeep], laidTests := true, laidLooks := .later }
def FnRulesCardSaid : Prop := Claim7.holds Tryd.pinned (.plain (OpenSpec.ofChange fnRulesSpec)) fnRulesCard

/-- THE TIED CARD OF 'laws.FnAllowed'. -/
def fnAllowedCard : Claim7 := { stood := { row := fnAllowedRow, standIns := [], harness := (true, "e4408f4ede5ec6f8c1c13af787bb5d3b18a6a4432b9bbd0dbd0e59aeefa9dca4"), looks := true }, kinds := [], alts := [], laidByText := true, laidKinds := [.widerDeep], laidTests := true, laidLooks := .later }
def FnAllowedCardSaid : Prop := Claim7.holds Tryd.pinned (.plain (OpenSpec.ofChange fnAllowedSpec)) fnAllowedCard

/-- THE TIED CARD OF 'laws.FnExactSortArms'. -/
def fnExactSortArmsCard : Claim7 := { stood := { row := fnExactSortArmsRow, standIns := [], harness := (true, "e4408f4ede5ec6f8c1c13af787bb5d3b18a6a4432b9bbd0dbd0e59aeefa9dca4"), looks := true }, kinds := [], alts := [], laidByText := true, laidKinds := [.data, .widerDeep, .widerDeep, .widerDeep, .widerDeep, .widerDeep, .widerDeep], laidTests := true, laidLooks := .later }
def FnExactSortArmsCardSaid : Prop := Claim7.holds Tryd.pinned (.plain (OpenSpec.ofChange fnExactSortArmsSpec)) fnExactSortArmsCard

/-- THE TIED CARD OF 'laws.FnExactRuleFindings'. -/
def fnExactRuleFindingsCard : Claim7 := { stood := { row := fnExactRuleFindingsRow, standIns := [], harness := (true, "e4408f4ede5ec6f8c1c13af787bb5d3b18a6a4432b9bbd0dbd0e59aeefa9dca4"), looks := true }, kinds := [], alts := [], laidByText := true, laidKinds := [.widerDeep], laidTests := true, laidLooks := .later }
def FnExactRuleFindingsCardSaid : Prop := Claim7.holds Tryd.pinned (.plain (OpenSpec.ofChange fnExactRuleFindingsSpec)) fnExactRuleFindingsCard

/-- THE TIED CARD OF 'laws.FnExactKeepsRules'. -/
def fnExactKeepsRulesCard : Claim7 := { stood := { row := fnExactKeepsRulesRow, standIns := [], harness := (true, "e4408f4ede5ec6f8c1c13af787bb5d3b18a6a4432b9bbd0dbd0e59aeefa9dca4"), looks := true }, kinds := [], alts := [], laidByText := true, laidKinds := [.widerDeep], laidTests := true, laidLooks := .later }
def FnExactKeepsRulesCardSaid : Prop := Claim7.holds Tryd.pinned (.plain (OpenSpec.ofChange fnExactKeepsRulesSpec)) fnExactKeepsRulesCard

/-- THE TIED CARD OF 'laws.FnExactLenientFindings'. -/
def fnExactLenientFindingsCard : Claim7 := { stood := { row := fnExactLenientFindingsRow, standIns := [], harness := (true, "e4408f4ede5ec6f8c1c13af787bb5d3b18a6a4432b9bbd0dbd0e59aeefa9dca4"), looks := true }, kinds := [], alts := [], laidByText := true, laidKinds := [.widerDeep], laidTests := true, laidLooks := .later }
def FnExactLenientFindingsCardSaid : Prop := Claim7.holds Tryd.pinned (.plain (OpenSpec.ofChange fnExactLenientFindingsSpec)) fnExactLenientFindingsCard

/-- THE TIED CARD OF 'laws.FnExactFindingText'. -/
def fnExactFindingTextCard : Claim7 := { stood := { row := fnExactFindingTextRow, standIns := [], harness := (true, "e4408f4ede5ec6f8c1c13af787bb5d3b18a6a4432b9bbd0dbd0e59aeefa9dca4"), looks := true }, kinds := [], alts := [], laidByText := true, laidKinds := [.data, .widerDeep], laidTests := true, laidLooks := .later }
def FnExactFindingTextCardSaid : Prop := Claim7.holds Tryd.pinned (.plain (OpenSpec.ofChange fnExactFindingTextSpec)) fnExactFindingTextCard

/-- THE TIED CARD OF 'laws.FnExactParseFinding'. -/
def fnExactParseFindingCard : Claim7 := { stood := { row := fnExactParseFindingRow, standIns := [], harness := (true, "e4408f4ede5ec6f8c1c13af787bb5d3b18a6a4432b9bbd0dbd0e59aeefa9dca4"), looks := true }, kinds := [], alts := [], laidByText := true, laidKinds := [.data, .widerDeep], laidTests := true, laidLooks := .later }
def FnExactParseFindingCardSaid : Prop := Claim7.holds Tryd.pinned (.plain (OpenSpec.ofChange fnExactParseFindingSpec)) fnExactParseFindingCard

/-- THE TIED CARD OF 'laws.FnExactAllowedAt'. -/
def fnExactAllowedAtCard : Claim7 := { stood := { row := fnExactAllowedAtRow, standIns := [], harness := (true, "e4408f4ede5ec6f8c1c13af787bb5d3b18a6a4432b9bbd0dbd0e59aeefa9dca4"), looks := true }, kinds := [], alts := [], laidByText := true, laidKinds := [.widerDeep], laidTests := true, laidLooks := .later }
def FnExactAllowedAtCardSaid : Prop := Claim7.holds Tryd.pinned (.plain (OpenSpec.ofChange fnExactAllowedAtSpec)) fnExactAllowedAtCard

/-- THE TIED CARD OF 'laws.FnExactRepairArms'. -/
def fnExactRepairArmsCard : Claim7 := { stood := { row := fnExactRepairArmsRow, standIns := [], harness := (true, "e4408f4ede5ec6f8c1c13af787bb5d3b18a6a4432b9bbd0dbd0e59aeefa9dca4"), looks := true }, kinds := [], alts := [], laidByText := true, laidKinds := [.widerDeep], laidTests := true, laidLooks := .later }
def FnExactRepairArmsCardSaid : Prop := Claim7.holds Tryd.pinned (.plain (OpenSpec.ofChange fnExactRepairArmsSpec)) fnExactRepairArmsCard

/-- THE SECOND FORM's CARD OF 'laws.FnOrder'. -/
def fnOrderUptoCard : Claim7 := { stood := { row := fnOrderUptoRow, standIns := [], harness := (true, "e4408f4ede5ec6f8c1c13af787bb5d3b18a6a4432b9bbd0dbd0e59aeefa9dca4"), looks := true }, kinds := [], alts := [], laidByText := true, laidKinds := [.data, .widerDeep, .widerDeep, .widerDeep, .widerDeep, .widerDeep, .widerDeep], laidTests := true, laidLooks := .later }
def FnOrderUptoCardSaid : Prop := Claim7.holds Tryd.pinned (.plain (OpenSpec.upto fnOrderSpec)) fnOrderUptoCard

/-- THE SECOND FORM's CARD OF 'laws.FnRules'. -/
def fnRulesUptoCard : Claim7 := { stood := { row := fnRulesUptoRow, standIns := [], harness := (true, "e4408f4ede5ec6f8c1c13af787bb5d3b18a6a4432b9bbd0dbd0e59aeefa9dca4"), looks := true }, kinds := [], alts := [], laidByText := true, laidKinds := [.data, .widerDeep, .widerDeep], laidTests := true, laidLooks := .later }
def FnRulesUptoCardSaid : Prop := Claim7.holds Tryd.pinned (.plain (OpenSpec.upto fnRulesSpec)) fnRulesUptoCard

/-- THE SECOND FORM's CARD OF 'laws.FnAllowed'. -/
def fnAllowedUptoCard : Claim7 := { stood := { row := fnAllowedUptoRow, standIns := [], harness := (true, "e4408f4ede5ec6f8c1c13af787bb5d3b18a6a4432b9bbd0dbd0e59aeefa9dca4"), looks := true }, kinds := [], alts := [], laidByText := true, laidKinds := [.widerDeep], laidTests := true, laidLooks := .later }
def FnAllowedUptoCardSaid : Prop := Claim7.holds Tryd.pinned (.plain (OpenSpec.upto fnAllowedSpec)) fnAllowedUptoCard

/-- THE SECOND FORM's CARD OF 'laws.FnExactSortArms'. -/
def fnExactSortArmsUptoCard : Claim7 := { stood := { row := fnExactSortArmsUptoRow, standIns := [], harness := (true, "e4408f4ede5ec6f8c1c13af787bb5d3b18a6a4432b9bbd0dbd0e59aeefa9dca4"), looks := true }, kinds := [], alts := [], laidByText := true, laidKinds := [.data, .widerDeep, .widerDeep, .widerDeep, .widerDeep, .widerDeep, .widerDeep], laidTests := true, laidLooks := .later }
def FnExactSortArmsUptoCardSaid : Prop := Claim7.holds Tryd.pinned (.plain (OpenSpec.upto fnExactSortArmsSpec)) fnExactSortArmsUptoCard

/-- THE SECOND FORM's CARD OF 'laws.FnExactRuleFindings'. -/
def fnExactRuleFindingsUptoCard : Claim7 := { stood := { row := fnExactRuleFindingsUptoRow, standIns := [], harness := (true, "e4408f4ede5ec6f8c1c13af787bb5d3b18a6a4432b9bbd0dbd0e59aeefa9dca4"), looks := true }, kinds := [], alts := [], laidByText := true, laidKinds := [.widerDeep], laidTests := true, laidLooks := .later }
def FnExactRuleFindingsUptoCardSaid : Prop := Claim7.holds Tryd.pinned (.plain (OpenSpec.upto fnExactRuleFindingsSpec)) fnExactRuleFindingsUptoCard

/-- THE SECOND FORM's CARD OF 'laws.FnExactKeepsRules'. -/
def fnExactKeepsRulesUptoCard : Claim7 := { stood := { row := fnExactKeepsRulesUptoRow, standIns := [], harness := (true, "e4408f4ede5ec6f8c1c13af787bb5d3b18a6a4432b9bbd0dbd0e59aeefa9dca4"), looks := true }, kinds := [], alts := [], laidByText := true, laidKinds := [.widerDeep], laidTests := true, laidLooks := .later }
def FnExactKeepsRulesUptoCardSaid : Prop := Claim7.holds Tryd.pinned (.plain (OpenSpec.upto fnExactKeepsRulesSpec)) fnExactKeepsRulesUptoCard

/-- THE SECOND FORM's CARD OF 'laws.FnExactLenientFindings'. -/
def fnExactLenientFindingsUptoCard : Claim7 := { stood := { row := fnExactLenientFindingsUptoRow, standIns := [], harness := (true, "e4408f4ede5ec6f8c1c13af787bb5d3b18a6a4432b9bbd0dbd0e59aeefa9dca4"), looks := true }, kinds := [], alts := [], laidByText := true, laidKinds := [.widerDeep], laidTests := true, laidLooks := .later }
def FnExactLenientFindingsUptoCardSaid : Prop := Claim7.holds Tryd.pinned (.plain (OpenSpec.upto fnExactLenientFindingsSpec)) fnExactLenientFindingsUptoCard

/-- THE SECOND FORM's CARD OF 'laws.FnExactFindingText'. -/
def fnExactFindingTextUptoCard : Claim7 := { stood := { row := fnExactFindingTextUptoRow, standIns := [], harness := (true, "e4408f4ede5ec6f8c1c13af787bb5d3b18a6a4432b9bbd0dbd0e59aeefa9dca4"), looks := true }, kinds := [], alts := [], laidByText := true, laidKinds := [.data, .widerDeep], laidTests := true, laidLooks := .later }
def FnExactFindingTextUptoCardSaid : Prop := Claim7.holds Tryd.pinned (.plain (OpenSpec.upto fnExactFindingTextSpec)) fnExactFindingTextUptoCard

/-- THE SECOND FORM's CARD OF 'laws.FnExactParseFinding'. -/
def fnExactParseFindingUptoCard : Claim7 := { stood := { row := fnExactParseFindingUptoRow, standIns := [], harness := (true, "e4408f4ede5ec6f8c1c13af787bb5d3b18a6a4432b9bbd0dbd0e59aeefa9dca4"), looks := true }, kinds := [], alts := [], laidByText := true, laidKinds := [.data, .widerDeep], laidTests := true, laidLooks := .later }
def FnExactParseFindingUptoCardSaid : Prop := Claim7.holds Tryd.pinned (.plain (OpenSpec.upto fnExactParseFindingSpec)) fnExactParseFindingUptoCard

/-- THE SECOND FORM's CARD OF 'laws.FnExactAllowedAt'. -/
def fnExactAllowedAtUptoCard : Claim7 := { stood := { row := fnExactAllowedAtUptoRow, standIns := [], harness := (true, "e4408f4ede5ec6f8c1c13af787bb5d3b18a6a4432b9bbd0dbd0e59aeefa9dca4"), looks := true }, kinds := [], alts := [], laidByText := true, laidKinds := [.widerDeep], laidTests := true, laidLooks := .later }
def FnExactAllowedAtUptoCardSaid : Prop := Claim7.holds Tryd.pinned (.plain (OpenSpec.upto fnExactAllowedAtSpec)) fnExactAllowedAtUptoCard

/-- THE SECOND FORM's CARD OF 'laws.FnExactRepairArms'. -/
def fnExactRepairArmsUptoCard : Claim7 := { stood := { row := fnExactRepairArmsUptoRow, standIns := [], harness := (true, "e4408f4ede5ec6f8c1c13af787bb5d3b18a6a4432b9bbd0dbd0e59aeefa9dca4"), looks := true }, kinds := [], alts := [], laidByText := true, laidKinds := [.widerDeep], laidTests := true, laidLooks := .later }
def FnExactRepairArmsUptoCardSaid : Prop := Claim7.holds Tryd.pinned (.plain (OpenSpec.upto fnExactRepairArmsSpec)) fnExactRepairArmsUptoCard
end Rows
end Go.Proofs.YtgoelkgdjnhklaaDoor
