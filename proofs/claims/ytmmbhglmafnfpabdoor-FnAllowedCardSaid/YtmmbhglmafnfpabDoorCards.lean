/-
  DERIVED. GIVEN WITH THE SEED: THE CARDS: each row of YtmmbhglmafnfpabDoorRows.lean that lists a variable, with what it lists TIED to the program's text (the seventh form; the later family's looks); each row that meets fmt, with fmt's text TOLD by the authors' own Lean function (tested against real Go, not proved from fmt's source: count such statements apart). THE CARD IS WHAT COUNTS. Prove the row's statement (the work); the ties are given (YtmmbhglmafnfpabDoorTie.lean); close each card by the builder's one call (the guide's Derived/Test/ToyasCard.lean, 'card_holds'). Laid BY PROGRAM, IN A SANDBOX (cutbox-door.mjs). By AI agents, Wed Nov 11 2026. No macro, syntax, notation, axiom, sorry.
-/
import Derived.Test.YtmmbhglmafnfpabDoorRows
import GoSem.ClaimSeven
namespace Go.Proofs.YtmmbhglmafnfpabDoor
namespace Rows

/-- THE TIED CARD OF 'laws.FnAllowed'. -/
def fnAllowedCard : Claim7 := { stood := { row := fnAllowedRow, standIns := [], harness := (true, "e2e435e89f3f47eb06b7e6a7fb1f00eedc827a8730d9dd980d3820c13f0b2225"), looks := true }, kinds := [], alts := [], laidByText := true, laidKinds := [.widerDeep], laidTests := true, laidLooks := .later }
def FnAllowedCardSaid : Prop := Claim7.holds Tryd.pinned (.plain (OpenSpec.ofChange fnAllowedSpec)) fnAllowedCard

/-- THE TIED CARD OF 'laws.FnExactRepairArms'. -/
def fnExactRepairArmsCard : Claim7 := { stood := { row := fnExactRepairArmsRow, standIns := [], harness := (true, "e2e435e89f3f47eb06b7e6a7fb1f00eedc827a8730d9dd980d3820c13f0b2225"), looks := true }, kinds := [], alts := [], laidByText := true, laidKinds := [.widerDeep], laidTests := true, laidLooks := .later }
def FnExactRepairArmsCardSaid : Prop := Claim7.holds Tryd.pinned (.plain (OpenSpec.ofChange fnExactRepairArmsSpec)) fnExactRepairArmsCard

/-- THE TIED CARD OF 'laws.FnRules'. -/
def fnRulesCard : Claim7 := { stood := { row := fnRulesRow, standIns := [], harness := (true, "e2e435e89f3f47eb06b7e6a7fb1f00eedc827a8730d9dd980d3820c13f0b2225"), looks := true }, kinds := [], alts := [], laidByText := true, laidKinds := [.data, .widerDeep, .widerDeep], laidTests := true, laidLooks := .later }
def FnRulesCardSaid : Prop := Claim7.holds Tryd.pinned (.plain (OpenSpec.ofChange fnRulesSpec)) fnRulesCard

/-- THE SECOND FORM's CARD OF 'laws.FnAllowed'. -/
def fnAllowedUptoCard : Claim7 := { stood := { row := fnAllowedUptoRow, standIns := [], harness := (true, "e2e435e89f3f47eb06b7e6a7fb1f00eedc827a8730d9dd980d3820c13f0b2225"), looks := true }, kinds := [], alts := [], laidByText := true, laidKinds := [.widerDeep], laidTests := true, laidLooks := .later }
def FnAllowedUptoCardSaid : Prop := Claim7.holds Tryd.pinned (.plain (OpenSpec.upto fnAllowedSpec)) fnAllowedUptoCard

/-- THE SECOND FORM's CARD OF 'laws.FnExactRepairArms'. -/
def fnExactRepairArmsUptoCard : Claim7 := { stood := { row := fnExactRepairArmsUptoRow, standIns := [], harness := (true, "e2e435e89f3f47eb06b7e6a7fb1f00eedc827a8730d9dd980d3820c13f0b2225"), looks := true }, kinds := [], alts := [], laidByText := true, laidKinds := [.widerDeep], laidTests := true, laidLooks := .later }
def FnExactRepairArmsUptoCardSaid : Prop := Claim7.holds Tryd.pinned (.plain (OpenSpec.upto fnExactRepairArmsSpec)) fnExactRepairArmsUptoCard

/-- THE SECOND FORM's CARD OF 'laws.FnRules'. -/
def fnRulesUptoCard : Claim7 := { stood := { row := fnRulesUptoRow, standIns := [], harness := (true, "e2e435e89f3f47eb06b7e6a7fb1f00eedc827a8730d9dd980d3820c13f0b2225"), looks := true }, kinds := [], alts := [], laidByText := true, laidKinds := [.data, .widerDeep, .widerDeep], laidTests := true, laidLooks := .later }
def FnRulesUptoCardSaid : Prop := Claim7.holds Tryd.pinned (.plain (OpenSpec.upto fnRulesSpec)) fnRulesUptoCard
end Rows
end Go.Proofs.YtmmbhglmafnfpabDoor
