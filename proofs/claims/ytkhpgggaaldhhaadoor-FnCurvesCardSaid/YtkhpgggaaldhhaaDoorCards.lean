/-
  DERIVED. GIVEN WITH THE SEED: THE CARDS: each row of YtkhpgggaaldhhaaDoorRows.lean that lists a variable, with what it lists TIED to the program's text (the seventh form; the later family's looks); each row that meets fmt, with fmt's text TOLD by the authors' own Lean function (tested against real Go, not proved from fmt's source: count such statements apart). THE CARD IS WHAT COUNTS. Prove the row's statement (the work); the ties are given (YtkhpgggaaldhhaaDoorTie.lean); close each card by the builder's one call (the guide's Derived/Test/ToyasCard.lean, 'card_holds'). Laid BY PROGRAM, IN A SANDBOX (cutbox-door.mjs). By AI agents, Wed Nov 11 2026. No macro, syntax, notation, axiom, sorry.
-/
import Derived.Test.YtkhpgggaaldhhaaDoorRows
import GoSem.ClaimSeven
namespace Go.Proofs.YtkhpgggaaldhhaaDoor
namespace Rows

/-- THE TIED CARD OF 'laws.FnLines'. -/
def fnLinesCard : Claim7 := { stood := { row := fnLinesRow, standIns := [], harness := (true, "17332f113ef768b003665e4ba820d8bca6e43642aa79ba398e66b0f33fe09813"), looks := false }, kinds := [], alts := [], laidByText := true, laidKinds := [.data], laidTests := true, laidLooks := .later }
def FnLinesCardSaid : Prop := Claim7.holds Tryd.pinned (.plain (OpenSpec.ofChange fnLinesSpec)) fnLinesCard

/-- THE TIED CARD OF 'laws.FnCurves'. -/
def fnCurvesCard : Claim7 := { stood := { row := fnCurvesRow, standIns := [], harness := (true, "17332f113ef768b003665e4ba820d8bca6e43642aa79ba398e66b0f33fe09813"), looks := false }, kinds := [], alts := [], laidByText := true, laidKinds := [.data], laidTests := true, laidLooks := .later }
def FnCurvesCardSaid : Prop := Claim7.holds Tryd.pinned (.plain (OpenSpec.ofChange fnCurvesSpec)) fnCurvesCard

/-- THE TIED CARD OF 'laws.FnExactLineOffset'. -/
def fnExactLineOffsetCard : Claim7 := { stood := { row := fnExactLineOffsetRow, standIns := [], harness := (true, "17332f113ef768b003665e4ba820d8bca6e43642aa79ba398e66b0f33fe09813"), looks := false }, kinds := [], alts := [], laidByText := true, laidKinds := [.data], laidTests := true, laidLooks := .later }
def FnExactLineOffsetCardSaid : Prop := Claim7.holds Tryd.pinned (.plain (OpenSpec.ofChange fnExactLineOffsetSpec)) fnExactLineOffsetCard

/-- THE TIED CARD OF 'laws.FnExactLinePeriod'. -/
def fnExactLinePeriodCard : Claim7 := { stood := { row := fnExactLinePeriodRow, standIns := [], harness := (true, "17332f113ef768b003665e4ba820d8bca6e43642aa79ba398e66b0f33fe09813"), looks := false }, kinds := [], alts := [], laidByText := true, laidKinds := [.data], laidTests := true, laidLooks := .later }
def FnExactLinePeriodCardSaid : Prop := Claim7.holds Tryd.pinned (.plain (OpenSpec.ofChange fnExactLinePeriodSpec)) fnExactLinePeriodCard

/-- THE TIED CARD OF 'laws.FnExactFieldPart'. -/
def fnExactFieldPartCard : Claim7 := { stood := { row := fnExactFieldPartRow, standIns := [], harness := (true, "17332f113ef768b003665e4ba820d8bca6e43642aa79ba398e66b0f33fe09813"), looks := false }, kinds := [], alts := [], laidByText := true, laidKinds := [.data], laidTests := true, laidLooks := .later }
def FnExactFieldPartCardSaid : Prop := Claim7.holds Tryd.pinned (.plain (OpenSpec.ofChange fnExactFieldPartSpec)) fnExactFieldPartCard

/-- THE TIED CARD OF 'laws.FnExactFieldTincture'. -/
def fnExactFieldTinctureCard : Claim7 := { stood := { row := fnExactFieldTinctureRow, standIns := [], harness := (true, "17332f113ef768b003665e4ba820d8bca6e43642aa79ba398e66b0f33fe09813"), looks := false }, kinds := [], alts := [], laidByText := true, laidKinds := [.data], laidTests := true, laidLooks := .later }
def FnExactFieldTinctureCardSaid : Prop := Claim7.holds Tryd.pinned (.plain (OpenSpec.ofChange fnExactFieldTinctureSpec)) fnExactFieldTinctureCard

/-- THE TIED CARD OF 'laws.FnExactFieldRegion'. -/
def fnExactFieldRegionCard : Claim7 := { stood := { row := fnExactFieldRegionRow, standIns := [], harness := (true, "17332f113ef768b003665e4ba820d8bca6e43642aa79ba398e66b0f33fe09813"), looks := false }, kinds := [], alts := [], laidByText := true, laidKinds := [.data], laidTests := true, laidLooks := .later }
def FnExactFieldRegionCardSaid : Prop := Claim7.holds Tryd.pinned (.plain (OpenSpec.ofChange fnExactFieldRegionSpec)) fnExactFieldRegionCard

/-- THE TIED CARD OF 'laws.FnExactLinedOrdinary'. -/
def fnExactLinedOrdinaryCard : Claim7 := { stood := { row := fnExactLinedOrdinaryRow, standIns := [], harness := (true, "17332f113ef768b003665e4ba820d8bca6e43642aa79ba398e66b0f33fe09813"), looks := false }, kinds := [], alts := [], laidByText := true, laidKinds := [.data], laidTests := true, laidLooks := .later }
def FnExactLinedOrdinaryCardSaid : Prop := Claim7.holds Tryd.pinned (.plain (OpenSpec.ofChange fnExactLinedOrdinarySpec)) fnExactLinedOrdinaryCard

/-- THE TIED CARD OF 'laws.FnExactLineTurns'. -/
def fnExactLineTurnsCard : Claim7 := { stood := { row := fnExactLineTurnsRow, standIns := [], harness := (true, "17332f113ef768b003665e4ba820d8bca6e43642aa79ba398e66b0f33fe09813"), looks := false }, kinds := [], alts := [], laidByText := true, laidKinds := [.data], laidTests := true, laidLooks := .later }
def FnExactLineTurnsCardSaid : Prop := Claim7.holds Tryd.pinned (.plain (OpenSpec.ofChange fnExactLineTurnsSpec)) fnExactLineTurnsCard

/-- THE TIED CARD OF 'laws.FnExactSwungCells'. -/
def fnExactSwungCellsCard : Claim7 := { stood := { row := fnExactSwungCellsRow, standIns := [], harness := (true, "17332f113ef768b003665e4ba820d8bca6e43642aa79ba398e66b0f33fe09813"), looks := false }, kinds := [], alts := [], laidByText := true, laidKinds := [.data], laidTests := true, laidLooks := .later }
def FnExactSwungCellsCardSaid : Prop := Claim7.holds Tryd.pinned (.plain (OpenSpec.ofChange fnExactSwungCellsSpec)) fnExactSwungCellsCard

/-- THE SECOND FORM's CARD OF 'laws.FnLines'. -/
def fnLinesUptoCard : Claim7 := { stood := { row := fnLinesUptoRow, standIns := [], harness := (true, "17332f113ef768b003665e4ba820d8bca6e43642aa79ba398e66b0f33fe09813"), looks := false }, kinds := [], alts := [], laidByText := true, laidKinds := [.data], laidTests := true, laidLooks := .later }
def FnLinesUptoCardSaid : Prop := Claim7.holds Tryd.pinned (.plain (OpenSpec.upto fnLinesSpec)) fnLinesUptoCard

/-- THE SECOND FORM's CARD OF 'laws.FnCurves'. -/
def fnCurvesUptoCard : Claim7 := { stood := { row := fnCurvesUptoRow, standIns := [], harness := (true, "17332f113ef768b003665e4ba820d8bca6e43642aa79ba398e66b0f33fe09813"), looks := false }, kinds := [], alts := [], laidByText := true, laidKinds := [.data], laidTests := true, laidLooks := .later }
def FnCurvesUptoCardSaid : Prop := Claim7.holds Tryd.pinned (.plain (OpenSpec.upto fnCurvesSpec)) fnCurvesUptoCard

/-- THE SECOND FORM's CARD OF 'laws.FnExactLineOffset'. -/
def fnExactLineOffsetUptoCard : Claim7 := { stood := { row := fnExactLineOffsetUptoRow, standIns := [], harness := (true, "17332f113ef768b003665e4ba820d8bca6e43642aa79ba398e66b0f33fe09813"), looks := false }, kinds := [], alts := [], laidByText := true, laidKinds := [.data], laidTests := true, laidLooks := .later }
def FnExactLineOffsetUptoCardSaid : Prop := Claim7.holds Tryd.pinned (.plain (OpenSpec.upto fnExactLineOffsetSpec)) fnExactLineOffsetUptoCard

/-- THE SECOND FORM's CARD OF 'laws.FnExactLinePeriod'. -/
def fnExactLinePeriodUptoCard : Claim7 := { stood := { row := fnExactLinePeriodUptoRow, standIns := [], harness := (true, "17332f113ef768b003665e4ba820d8bca6e43642aa79ba398e66b0f33fe09813"), looks := false }, kinds := [], alts := [], laidByText := true, laidKinds := [.data], laidTests := true, laidLooks := .later }
def FnExactLinePeriodUptoCardSaid : Prop := Claim7.holds Tryd.pinned (.plain (OpenSpec.upto fnExactLinePeriodSpec)) fnExactLinePeriodUptoCard

/-- THE SECOND FORM's CARD OF 'laws.FnExactFieldPart'. -/
def fnExactFieldPartUptoCard : Claim7 := { stood := { row := fnExactFieldPartUptoRow, standIns := [], harness := (true, "17332f113ef768b003665e4ba820d8bca6e43642aa79ba398e66b0f33fe09813"), looks := false }, kinds := [], alts := [], laidByText := true, laidKinds := [.data], laidTests := true, laidLooks := .later }
def FnExactFieldPartUptoCardSaid : Prop := Claim7.holds Tryd.pinned (.plain (OpenSpec.upto fnExactFieldPartSpec)) fnExactFieldPartUptoCard

/-- THE SECOND FORM's CARD OF 'laws.FnExactFieldTincture'. -/
def fnExactFieldTinctureUptoCard : Claim7 := { stood := { row := fnExactFieldTinctureUptoRow, standIns := [], harness := (true, "17332f113ef768b003665e4ba820d8bca6e43642aa79ba398e66b0f33fe09813"), looks := false }, kinds := [], alts := [], laidByText := true, laidKinds := [.data], laidTests := true, laidLooks := .later }
def FnExactFieldTinctureUptoCardSaid : Prop := Claim7.holds Tryd.pinned (.plain (OpenSpec.upto fnExactFieldTinctureSpec)) fnExactFieldTinctureUptoCard

/-- THE SECOND FORM's CARD OF 'laws.FnExactFieldRegion'. -/
def fnExactFieldRegionUptoCard : Claim7 := { stood := { row := fnExactFieldRegionUptoRow, standIns := [], harness := (true, "17332f113ef768b003665e4ba820d8bca6e43642aa79ba398e66b0f33fe09813"), looks := false }, kinds := [], alts := [], laidByText := true, laidKinds := [.data], laidTests := true, laidLooks := .later }
def FnExactFieldRegionUptoCardSaid : Prop := Claim7.holds Tryd.pinned (.plain (OpenSpec.upto fnExactFieldRegionSpec)) fnExactFieldRegionUptoCard

/-- THE SECOND FORM's CARD OF 'laws.FnExactLinedOrdinary'. -/
def fnExactLinedOrdinaryUptoCard : Claim7 := { stood := { row := fnExactLinedOrdinaryUptoRow, standIns := [], harness := (true, "17332f113ef768b003665e4ba820d8bca6e43642aa79ba398e66b0f33fe09813"), looks := false }, kinds := [], alts := [], laidByText := true, laidKinds := [.data], laidTests := true, laidLooks := .later }
def FnExactLinedOrdinaryUptoCardSaid : Prop := Claim7.holds Tryd.pinned (.plain (OpenSpec.upto fnExactLinedOrdinarySpec)) fnExactLinedOrdinaryUptoCard

/-- THE SECOND FORM's CARD OF 'laws.FnExactLineTurns'. -/
def fnExactLineTurnsUptoCard : Claim7 := { stood := { row := fnExactLineTurnsUptoRow, standIns := [], harness := (true, "17332f113ef768b003665e4ba820d8bca6e43642aa79ba398e66b0f33fe09813"), looks := false }, kinds := [], alts := [], laidByText := true, laidKinds := [.data], laidTests := true, laidLooks := .later }
def FnExactLineTurnsUptoCardSaid : Prop := Claim7.holds Tryd.pinned (.plain (OpenSpec.upto fnExactLineTurnsSpec)) fnExactLineTurnsUptoCard

/-- THE SECOND FORM's CARD OF 'laws.FnExactSwungCells'. -/
def fnExactSwungCellsUptoCard : Claim7 := { stood := { row := fnExactSwungCellsUptoRow, standIns := [], harness := (true, "17332f113ef768b003665e4ba820d8bca6e43642aa79ba398e66b0f33fe09813"), looks := false }, kinds := [], alts := [], laidByText := true, laidKinds := [.data], laidTests := true, laidLooks := .later }
def FnExactSwungCellsUptoCardSaid : Prop := Claim7.holds Tryd.pinned (.plain (OpenSpec.upto fnExactSwungCellsSpec)) fnExactSwungCellsUptoCard
end Rows
end Go.Proofs.YtkhpgggaaldhhaaDoor
