/-
  DERIVED. GIVEN WITH THE SEED: THE CARDS: each row of YthapidnjioindaaDoorRows.lean that lists a variable, with what it lists TIED to the program's text (the seventh form; the later family's looks); each row that meets fmt, with fmt's text TOLD by the authors' own Lean function (tested against real Go, not proved from fmt's source: count such statements apart). THE CARD IS WHAT COUNTS. Prove the row's statement (the work); the ties are given (YthapidnjioindaaDoorTie.lean); close each card by the builder's one call (the guide's Derived/Test/ToyasCard.lean, 'card_holds'). Laid BY PROGRAM, IN A SANDBOX (cutbox-door.mjs). By AI agents, Wed Nov 11 2026. No macro, syntax, notation, axiom, sorry.
-/
import Derived.Test.YthapidnjioindaaDoorRows
import GoSem.ClaimSeven
namespace Go.Proofs.YthapidnjioindaaDoor
namespace Rows

/-- THE TIED CARD OF 'laws.FnFilling'. -/
def fnFillingCard : Claim7 := { stood := { row := fnFillingRow, standIns := [], harness := (true, "c9407b8927502c6278181878e412d93467e68ec0650dd3c6c23d90e8e67f75ef"), looks := false }, kinds := [], alts := [], laidByText := true, laidKinds := [.data, .data], laidTests := true, laidLooks := .later }
def FnFillingCardSaid : Prop := Claim7.holds Tryd.pinned (.plain (OpenSpec.ofChange fnFillingSpec)) fnFillingCard

/-- THE TIED CARD OF 'laws.FnExactFillRegion'. -/
def fnExactFillRegionCard : Claim7 := { stood := { row := fnExactFillRegionRow, standIns := [], harness := (true, "c9407b8927502c6278181878e412d93467e68ec0650dd3c6c23d90e8e67f75ef"), looks := false }, kinds := [], alts := [], laidByText := true, laidKinds := [.data, .data], laidTests := true, laidLooks := .later }
def FnExactFillRegionCardSaid : Prop := Claim7.holds Tryd.pinned (.plain (OpenSpec.ofChange fnExactFillRegionSpec)) fnExactFillRegionCard

/-- THE TIED CARD OF 'laws.FnExactLargestBoxes'. -/
def fnExactLargestBoxesCard : Claim7 := { stood := { row := fnExactLargestBoxesRow, standIns := [], harness := (true, "c9407b8927502c6278181878e412d93467e68ec0650dd3c6c23d90e8e67f75ef"), looks := false }, kinds := [], alts := [], laidByText := true, laidKinds := [.data, .data], laidTests := true, laidLooks := .later }
def FnExactLargestBoxesCardSaid : Prop := Claim7.holds Tryd.pinned (.plain (OpenSpec.ofChange fnExactLargestBoxesSpec)) fnExactLargestBoxesCard

/-- THE TIED CARD OF 'laws.FnExactArmsOrdinary'. -/
def fnExactArmsOrdinaryCard : Claim7 := { stood := { row := fnExactArmsOrdinaryRow, standIns := [], harness := (true, "c9407b8927502c6278181878e412d93467e68ec0650dd3c6c23d90e8e67f75ef"), looks := false }, kinds := [], alts := [], laidByText := true, laidKinds := [.data, .widerDeep], laidTests := true, laidLooks := .later }
def FnExactArmsOrdinaryCardSaid : Prop := Claim7.holds Tryd.pinned (.plain (OpenSpec.ofChange fnExactArmsOrdinarySpec)) fnExactArmsOrdinaryCard

/-- THE TIED CARD OF 'laws.FnExactGroundOf'. -/
def fnExactGroundOfCard : Claim7 := { stood := { row := fnExactGroundOfRow, standIns := [], harness := (true, "c9407b8927502c6278181878e412d93467e68ec0650dd3c6c23d90e8e67f75ef"), looks := false }, kinds := [], alts := [], laidByText := true, laidKinds := [.data, .widerDeep], laidTests := true, laidLooks := .later }
def FnExactGroundOfCardSaid : Prop := Claim7.holds Tryd.pinned (.plain (OpenSpec.ofChange fnExactGroundOfSpec)) fnExactGroundOfCard

/-- THE TIED CARD OF 'laws.FnExactPlaceCharges'. -/
def fnExactPlaceChargesCard : Claim7 := { stood := { row := fnExactPlaceChargesRow, standIns := [], harness := (true, "c9407b8927502c6278181878e412d93467e68ec0650dd3c6c23d90e8e67f75ef"), looks := false }, kinds := [], alts := [], laidByText := true, laidKinds := [.data, .data, .data, .widerDeep], laidTests := true, laidLooks := .later }
def FnExactPlaceChargesCardSaid : Prop := Claim7.holds Tryd.pinned (.plain (OpenSpec.ofChange fnExactPlaceChargesSpec)) fnExactPlaceChargesCard

/-- THE TIED CARD OF 'laws.FnRegions'. -/
def fnRegionsCard : Claim7 := { stood := { row := fnRegionsRow, standIns := [], harness := (true, "c9407b8927502c6278181878e412d93467e68ec0650dd3c6c23d90e8e67f75ef"), looks := false }, kinds := [], alts := [], laidByText := true, laidKinds := [.data, .data], laidTests := true, laidLooks := .later }
def FnRegionsCardSaid : Prop := Claim7.holds Tryd.pinned (.plain (OpenSpec.ofChange fnRegionsSpec)) fnRegionsCard

/-- THE SECOND FORM's CARD OF 'laws.FnFilling'. -/
def fnFillingUptoCard : Claim7 := { stood := { row := fnFillingUptoRow, standIns := [], harness := (true, "c9407b8927502c6278181878e412d93467e68ec0650dd3c6c23d90e8e67f75ef"), looks := false }, kinds := [], alts := [], laidByText := true, laidKinds := [.data, .data], laidTests := true, laidLooks := .later }
def FnFillingUptoCardSaid : Prop := Claim7.holds Tryd.pinned (.plain (OpenSpec.upto fnFillingSpec)) fnFillingUptoCard

/-- THE SECOND FORM's CARD OF 'laws.FnExactFillRegion'. -/
def fnExactFillRegionUptoCard : Claim7 := { stood := { row := fnExactFillRegionUptoRow, standIns := [], harness := (true, "c9407b8927502c6278181878e412d93467e68ec0650dd3c6c23d90e8e67f75ef"), looks := false }, kinds := [], alts := [], laidByText := true, laidKinds := [.data, .data], laidTests := true, laidLooks := .later }
def FnExactFillRegionUptoCardSaid : Prop := Claim7.holds Tryd.pinned (.plain (OpenSpec.upto fnExactFillRegionSpec)) fnExactFillRegionUptoCard

/-- THE SECOND FORM's CARD OF 'laws.FnExactLargestBoxes'. -/
def fnExactLargestBoxesUptoCard : Claim7 := { stood := { row := fnExactLargestBoxesUptoRow, standIns := [], harness := (true, "c9407b8927502c6278181878e412d93467e68ec0650dd3c6c23d90e8e67f75ef"), looks := false }, kinds := [], alts := [], laidByText := true, laidKinds := [.data, .data], laidTests := true, laidLooks := .later }
def FnExactLargestBoxesUptoCardSaid : Prop := Claim7.holds Tryd.pinned (.plain (OpenSpec.upto fnExactLargestBoxesSpec)) fnExactLargestBoxesUptoCard

/-- THE SECOND FORM's CARD OF 'laws.FnExactArmsOrdinary'. -/
def fnExactArmsOrdinaryUptoCard : Claim7 := { stood := { row := fnExactArmsOrdinaryUptoRow, standIns := [], harness := (true, "c9407b8927502c6278181878e412d93467e68ec0650dd3c6c23d90e8e67f75ef"), looks := false }, kinds := [], alts := [], laidByText := true, laidKinds := [.data, .widerDeep], laidTests := true, laidLooks := .later }
def FnExactArmsOrdinaryUptoCardSaid : Prop := Claim7.holds Tryd.pinned (.plain (OpenSpec.upto fnExactArmsOrdinarySpec)) fnExactArmsOrdinaryUptoCard

/-- THE SECOND FORM's CARD OF 'laws.FnExactGroundOf'. -/
def fnExactGroundOfUptoCard : Claim7 := { stood := { row := fnExactGroundOfUptoRow, standIns := [], harness := (true, "c9407b8927502c6278181878e412d93467e68ec0650dd3c6c23d90e8e67f75ef"), looks := false }, kinds := [], alts := [], laidByText := true, laidKinds := [.data, .widerDeep], laidTests := true, laidLooks := .later }
def FnExactGroundOfUptoCardSaid : Prop := Claim7.holds Tryd.pinned (.plain (OpenSpec.upto fnExactGroundOfSpec)) fnExactGroundOfUptoCard

/-- THE SECOND FORM's CARD OF 'laws.FnExactPlaceCharges'. -/
def fnExactPlaceChargesUptoCard : Claim7 := { stood := { row := fnExactPlaceChargesUptoRow, standIns := [], harness := (true, "c9407b8927502c6278181878e412d93467e68ec0650dd3c6c23d90e8e67f75ef"), looks := false }, kinds := [], alts := [], laidByText := true, laidKinds := [.data, .data, .data, .widerDeep], laidTests := true, laidLooks := .later }
def FnExactPlaceChargesUptoCardSaid : Prop := Claim7.holds Tryd.pinned (.plain (OpenSpec.upto fnExactPlaceChargesSpec)) fnExactPlaceChargesUptoCard

/-- THE SECOND FORM's CARD OF 'laws.FnRegions'. -/
def fnRegionsUptoCard : Claim7 := { stood := { row := fnRegionsUptoRow, standIns := [], harness := (true, "c9407b8927502c6278181878e412d93467e68ec0650dd3c6c23d90e8e67f75ef"), looks := false }, kinds := [], alts := [], laidByText := true, laidKinds := [.data, .data], laidTests := true, laidLooks := .later }
def FnRegionsUptoCardSaid : Prop := Claim7.holds Tryd.pinned (.plain (OpenSpec.upto fnRegionsSpec)) fnRegionsUptoCard
end Rows
end Go.Proofs.YthapidnjioindaaDoor
