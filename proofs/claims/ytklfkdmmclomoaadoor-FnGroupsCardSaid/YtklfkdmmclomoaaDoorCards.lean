/-
  DERIVED. GIVEN WITH THE SEED: THE CARDS: each row of YtklfkdmmclomoaaDoorRows.lean that lists a variable, with what it lists TIED to the program's text (the seventh form; the later family's looks); each row that meets fmt, with fmt's text TOLD by the authors' own Lean function (tested against real Go, not proved from fmt's source: count such statements apart). THE CARD IS WHAT COUNTS. Prove the row's statement (the work); the ties are given (YtklfkdmmclomoaaDoorTie.lean); close each card by the builder's one call (the guide's Derived/Test/ToyasCard.lean, 'card_holds'). Laid BY PROGRAM, IN A SANDBOX (cutbox-door.mjs). By AI agents, Wed Nov 11 2026. No macro, syntax, notation, axiom, sorry.
-/
import Derived.Test.YtklfkdmmclomoaaDoorRows
import GoSem.ClaimSeven
namespace Go.Proofs.YtklfkdmmclomoaaDoor
namespace Rows

/-- THE TIED CARD OF 'laws.FnGroups'. -/
def fnGroupsCard : Claim7 := { stood := { row := fnGroupsRow, standIns := [], harness := (true, "5345184ecfd63a51511ccb799623285e2c420bb998cecc5c2c6c155aed650024"), looks := false }, kinds := [], alts := [], laidByText := true, laidKinds := [.data, .widerDeep, .widerDeep, .widerDeep, .widerDeep], laidTests := true, laidLooks := .later }
def FnGroupsCardSaid : Prop := Claim7.holds Tryd.pinned (.plain (OpenSpec.ofChange fnGroupsSpec)) fnGroupsCard

/-- THE TIED CARD OF 'laws.FnGroupDifferences'. -/
def fnGroupDifferencesCard : Claim7 := { stood := { row := fnGroupDifferencesRow, standIns := [], harness := (true, "5345184ecfd63a51511ccb799623285e2c420bb998cecc5c2c6c155aed650024"), looks := false }, kinds := [], alts := [], laidByText := true, laidKinds := [.widerDeep], laidTests := true, laidLooks := .later }
def FnGroupDifferencesCardSaid : Prop := Claim7.holds Tryd.pinned (.plain (OpenSpec.ofChange fnGroupDifferencesSpec)) fnGroupDifferencesCard

/-- THE TIED CARD OF 'laws.FnExactIsValidGroup'. -/
def fnExactIsValidGroupCard : Claim7 := { stood := { row := fnExactIsValidGroupRow, standIns := [], harness := (true, "5345184ecfd63a51511ccb799623285e2c420bb998cecc5c2c6c155aed650024"), looks := false }, kinds := [], alts := [], laidByText := true, laidKinds := [.widerDeep], laidTests := true, laidLooks := .later }
def FnExactIsValidGroupCardSaid : Prop := Claim7.holds Tryd.pinned (.plain (OpenSpec.ofChange fnExactIsValidGroupSpec)) fnExactIsValidGroupCard

/-- THE TIED CARD OF 'laws.FnExactGroupText'. -/
def fnExactGroupTextCard : Claim7 := { stood := { row := fnExactGroupTextRow, standIns := [], harness := (true, "5345184ecfd63a51511ccb799623285e2c420bb998cecc5c2c6c155aed650024"), looks := false }, kinds := [], alts := [], laidByText := true, laidKinds := [.data, .widerDeep, .widerDeep, .widerDeep], laidTests := true, laidLooks := .later }
def FnExactGroupTextCardSaid : Prop := Claim7.holds Tryd.pinned (.plain (OpenSpec.ofChange fnExactGroupTextSpec)) fnExactGroupTextCard

/-- THE TIED CARD OF 'laws.FnExactParseGroup'. -/
def fnExactParseGroupCard : Claim7 := { stood := { row := fnExactParseGroupRow, standIns := [], harness := (true, "5345184ecfd63a51511ccb799623285e2c420bb998cecc5c2c6c155aed650024"), looks := false }, kinds := [], alts := [], laidByText := true, laidKinds := [.data, .widerDeep, .widerDeep, .widerDeep], laidTests := true, laidLooks := .later }
def FnExactParseGroupCardSaid : Prop := Claim7.holds Tryd.pinned (.plain (OpenSpec.ofChange fnExactParseGroupSpec)) fnExactParseGroupCard

/-- THE TIED CARD OF 'laws.FnExactKindWord'. -/
def fnExactKindWordCard : Claim7 := { stood := { row := fnExactKindWordRow, standIns := [], harness := (true, "5345184ecfd63a51511ccb799623285e2c420bb998cecc5c2c6c155aed650024"), looks := false }, kinds := [], alts := [], laidByText := true, laidKinds := [.widerDeep], laidTests := true, laidLooks := .later }
def FnExactKindWordCardSaid : Prop := Claim7.holds Tryd.pinned (.plain (OpenSpec.ofChange fnExactKindWordSpec)) fnExactKindWordCard

/-- THE TIED CARD OF 'laws.FnExactAttitudesOf'. -/
def fnExactAttitudesOfCard : Claim7 := { stood := { row := fnExactAttitudesOfRow, standIns := [], harness := (true, "5345184ecfd63a51511ccb799623285e2c420bb998cecc5c2c6c155aed650024"), looks := false }, kinds := [], alts := [], laidByText := true, laidKinds := [.widerDeep], laidTests := true, laidLooks := .later }
def FnExactAttitudesOfCardSaid : Prop := Claim7.holds Tryd.pinned (.plain (OpenSpec.ofChange fnExactAttitudesOfSpec)) fnExactAttitudesOfCard

/-- THE TIED CARD OF 'laws.FnExactGroupDifferences'. -/
def fnExactGroupDifferencesCard : Claim7 := { stood := { row := fnExactGroupDifferencesRow, standIns := [], harness := (true, "5345184ecfd63a51511ccb799623285e2c420bb998cecc5c2c6c155aed650024"), looks := false }, kinds := [], alts := [], laidByText := true, laidKinds := [.widerDeep], laidTests := true, laidLooks := .later }
def FnExactGroupDifferencesCardSaid : Prop := Claim7.holds Tryd.pinned (.plain (OpenSpec.ofChange fnExactGroupDifferencesSpec)) fnExactGroupDifferencesCard

/-- THE TIED CARD OF 'laws.FnExactJoinGroups'. -/
def fnExactJoinGroupsCard : Claim7 := { stood := { row := fnExactJoinGroupsRow, standIns := [], harness := (true, "5345184ecfd63a51511ccb799623285e2c420bb998cecc5c2c6c155aed650024"), looks := false }, kinds := [], alts := [], laidByText := true, laidKinds := [.widerDeep], laidTests := true, laidLooks := .later }
def FnExactJoinGroupsCardSaid : Prop := Claim7.holds Tryd.pinned (.plain (OpenSpec.ofChange fnExactJoinGroupsSpec)) fnExactJoinGroupsCard

/-- THE TIED CARD OF 'laws.FnExactRowsOf'. -/
def fnExactRowsOfCard : Claim7 := { stood := { row := fnExactRowsOfRow, standIns := [], harness := (true, "5345184ecfd63a51511ccb799623285e2c420bb998cecc5c2c6c155aed650024"), looks := false }, kinds := [], alts := [], laidByText := true, laidKinds := [.widerDeep], laidTests := true, laidLooks := .later }
def FnExactRowsOfCardSaid : Prop := Claim7.holds Tryd.pinned (.plain (OpenSpec.ofChange fnExactRowsOfSpec)) fnExactRowsOfCard

/-- THE TIED CARD OF 'laws.FnExactIsBeast'. -/
def fnExactIsBeastCard : Claim7 := { stood := { row := fnExactIsBeastRow, standIns := [], harness := (true, "5345184ecfd63a51511ccb799623285e2c420bb998cecc5c2c6c155aed650024"), looks := false }, kinds := [], alts := [], laidByText := true, laidKinds := [.widerDeep], laidTests := true, laidLooks := .later }
def FnExactIsBeastCardSaid : Prop := Claim7.holds Tryd.pinned (.plain (OpenSpec.ofChange fnExactIsBeastSpec)) fnExactIsBeastCard

/-- THE SECOND FORM's CARD OF 'laws.FnGroups'. -/
def fnGroupsUptoCard : Claim7 := { stood := { row := fnGroupsUptoRow, standIns := [], harness := (true, "5345184ecfd63a51511ccb799623285e2c420bb998cecc5c2c6c155aed650024"), looks := false }, kinds := [], alts := [], laidByText := true, laidKinds := [.data, .widerDeep, .widerDeep, .widerDeep, .widerDeep], laidTests := true, laidLooks := .later }
def FnGroupsUptoCardSaid : Prop := Claim7.holds Tryd.pinned (.plain (OpenSpec.upto fnGroupsSpec)) fnGroupsUptoCard

/-- THE SECOND FORM's CARD OF 'laws.FnGroupDifferences'. -/
def fnGroupDifferencesUptoCard : Claim7 := { stood := { row := fnGroupDifferencesUptoRow, standIns := [], harness := (true, "5345184ecfd63a51511ccb799623285e2c420bb998cecc5c2c6c155aed650024"), looks := false }, kinds := [], alts := [], laidByText := true, laidKinds := [.widerDeep], laidTests := true, laidLooks := .later }
def FnGroupDifferencesUptoCardSaid : Prop := Claim7.holds Tryd.pinned (.plain (OpenSpec.upto fnGroupDifferencesSpec)) fnGroupDifferencesUptoCard

/-- THE SECOND FORM's CARD OF 'laws.FnExactIsValidGroup'. -/
def fnExactIsValidGroupUptoCard : Claim7 := { stood := { row := fnExactIsValidGroupUptoRow, standIns := [], harness := (true, "5345184ecfd63a51511ccb799623285e2c420bb998cecc5c2c6c155aed650024"), looks := false }, kinds := [], alts := [], laidByText := true, laidKinds := [.widerDeep], laidTests := true, laidLooks := .later }
def FnExactIsValidGroupUptoCardSaid : Prop := Claim7.holds Tryd.pinned (.plain (OpenSpec.upto fnExactIsValidGroupSpec)) fnExactIsValidGroupUptoCard

/-- THE SECOND FORM's CARD OF 'laws.FnExactGroupText'. -/
def fnExactGroupTextUptoCard : Claim7 := { stood := { row := fnExactGroupTextUptoRow, standIns := [], harness := (true, "5345184ecfd63a51511ccb799623285e2c420bb998cecc5c2c6c155aed650024"), looks := false }, kinds := [], alts := [], laidByText := true, laidKinds := [.data, .widerDeep, .widerDeep, .widerDeep], laidTests := true, laidLooks := .later }
def FnExactGroupTextUptoCardSaid : Prop := Claim7.holds Tryd.pinned (.plain (OpenSpec.upto fnExactGroupTextSpec)) fnExactGroupTextUptoCard

/-- THE SECOND FORM's CARD OF 'laws.FnExactParseGroup'. -/
def fnExactParseGroupUptoCard : Claim7 := { stood := { row := fnExactParseGroupUptoRow, standIns := [], harness := (true, "5345184ecfd63a51511ccb799623285e2c420bb998cecc5c2c6c155aed650024"), looks := false }, kinds := [], alts := [], laidByText := true, laidKinds := [.data, .widerDeep, .widerDeep, .widerDeep], laidTests := true, laidLooks := .later }
def FnExactParseGroupUptoCardSaid : Prop := Claim7.holds Tryd.pinned (.plain (OpenSpec.upto fnExactParseGroupSpec)) fnExactParseGroupUptoCard

/-- THE SECOND FORM's CARD OF 'laws.FnExactKindWord'. -/
def fnExactKindWordUptoCard : Claim7 := { stood := { row := fnExactKindWordUptoRow, standIns := [], harness := (true, "5345184ecfd63a51511ccb799623285e2c420bb998cecc5c2c6c155aed650024"), looks := false }, kinds := [], alts := [], laidByText := true, laidKinds := [.widerDeep], laidTests := true, laidLooks := .later }
def FnExactKindWordUptoCardSaid : Prop := Claim7.holds Tryd.pinned (.plain (OpenSpec.upto fnExactKindWordSpec)) fnExactKindWordUptoCard

/-- THE SECOND FORM's CARD OF 'laws.FnExactAttitudesOf'. -/
def fnExactAttitudesOfUptoCard : Claim7 := { stood := { row := fnExactAttitudesOfUptoRow, standIns := [], harness := (true, "5345184ecfd63a51511ccb799623285e2c420bb998cecc5c2c6c155aed650024"), looks := false }, kinds := [], alts := [], laidByText := true, laidKinds := [.widerDeep], laidTests := true, laidLooks := .later }
def FnExactAttitudesOfUptoCardSaid : Prop := Claim7.holds Tryd.pinned (.plain (OpenSpec.upto fnExactAttitudesOfSpec)) fnExactAttitudesOfUptoCard

/-- THE SECOND FORM's CARD OF 'laws.FnExactGroupDifferences'. -/
def fnExactGroupDifferencesUptoCard : Claim7 := { stood := { row := fnExactGroupDifferencesUptoRow, standIns := [], harness := (true, "5345184ecfd63a51511ccb799623285e2c420bb998cecc5c2c6c155aed650024"), looks := false }, kinds := [], alts := [], laidByText := true, laidKinds := [.widerDeep], laidTests := true, laidLooks := .later }
def FnExactGroupDifferencesUptoCardSaid : Prop := Claim7.holds Tryd.pinned (.plain (OpenSpec.upto fnExactGroupDifferencesSpec)) fnExactGroupDifferencesUptoCard

/-- THE SECOND FORM's CARD OF 'laws.FnExactJoinGroups'. -/
def fnExactJoinGroupsUptoCard : Claim7 := { stood := { row := fnExactJoinGroupsUptoRow, standIns := [], harness := (true, "5345184ecfd63a51511ccb799623285e2c420bb998cecc5c2c6c155aed650024"), looks := false }, kinds := [], alts := [], laidByText := true, laidKinds := [.widerDeep], laidTests := true, laidLooks := .later }
def FnExactJoinGroupsUptoCardSaid : Prop := Claim7.holds Tryd.pinned (.plain (OpenSpec.upto fnExactJoinGroupsSpec)) fnExactJoinGroupsUptoCard

/-- THE SECOND FORM's CARD OF 'laws.FnExactRowsOf'. -/
def fnExactRowsOfUptoCard : Claim7 := { stood := { row := fnExactRowsOfUptoRow, standIns := [], harness := (true, "5345184ecfd63a51511ccb799623285e2c420bb998cecc5c2c6c155aed650024"), looks := false }, kinds := [], alts := [], laidByText := true, laidKinds := [.widerDeep], laidTests := true, laidLooks := .later }
def FnExactRowsOfUptoCardSaid : Prop := Claim7.holds Tryd.pinned (.plain (OpenSpec.upto fnExactRowsOfSpec)) fnExactRowsOfUptoCard

/-- THE SECOND FORM's CARD OF 'laws.FnExactIsBeast'. -/
def fnExactIsBeastUptoCard : Claim7 := { stood := { row := fnExactIsBeastUptoRow, standIns := [], harness := (true, "5345184ecfd63a51511ccb799623285e2c420bb998cecc5c2c6c155aed650024"), looks := false }, kinds := [], alts := [], laidByText := true, laidKinds := [.widerDeep], laidTests := true, laidLooks := .later }
def FnExactIsBeastUptoCardSaid : Prop := Claim7.holds Tryd.pinned (.plain (OpenSpec.upto fnExactIsBeastSpec)) fnExactIsBeastUptoCard
end Rows
end Go.Proofs.YtklfkdmmclomoaaDoor
