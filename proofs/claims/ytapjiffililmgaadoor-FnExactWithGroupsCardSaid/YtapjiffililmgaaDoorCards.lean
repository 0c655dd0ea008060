/-
  DERIVED. GIVEN WITH THE SEED: THE CARDS: each row of YtapjiffililmgaaDoorRows.lean that lists a variable, with what it lists TIED to the program's text (the seventh form; the later family's looks); each row that meets fmt, with fmt's text TOLD by the authors' own Lean function (tested against real Go, not proved from fmt's source: count such statements apart). THE CARD IS WHAT COUNTS. Prove the row's statement (the work); the ties are given (YtapjiffililmgaaDoorTie.lean); close each card by the builder's one call (the guide's Derived/Test/ToyasCard.lean, 'card_holds'). Laid BY PROGRAM, IN A SANDBOX (cutbox-door.mjs). By AI agents, Wed Nov 11 2026. No macro, syntax, notation, axiom, sorry.
-/
import Derived.Test.YtapjiffililmgaaDoorRows
import GoSem.ClaimSeven
namespace Go.Proofs.YtapjiffililmgaaDoor
namespace Rows

/-- THE TIED CARD OF 'laws.FnArms'. -/
def fnArmsCard : Claim7 := { stood := { row := fnArmsRow, standIns := [], harness := (true, "d1e5bf1e1e7a9597079e242572c71b978cc10d1859386c6c3f3b043764f7ec81"), looks := false }, kinds := [], alts := [], laidByText := true, laidKinds := [.widerDeep], laidTests := true, laidLooks := .later }
def FnArmsCardSaid : Prop := Claim7.holds Tryd.pinned (.plain (OpenSpec.ofChange fnArmsSpec)) fnArmsCard

/-- THE TIED CARD OF 'laws.FnArmsParts'. -/
def fnArmsPartsCard : Claim7 := { stood := { row := fnArmsPartsRow, standIns := [], harness := (true, "d1e5bf1e1e7a9597079e242572c71b978cc10d1859386c6c3f3b043764f7ec81"), looks := false }, kinds := [], alts := [], laidByText := true, laidKinds := [.widerDeep], laidTests := true, laidLooks := .later }
def FnArmsPartsCardSaid : Prop := Claim7.holds Tryd.pinned (.plain (OpenSpec.ofChange fnArmsPartsSpec)) fnArmsPartsCard

/-- THE TIED CARD OF 'laws.FnExactIsValidArms'. -/
def fnExactIsValidArmsCard : Claim7 := { stood := { row := fnExactIsValidArmsRow, standIns := [], harness := (true, "d1e5bf1e1e7a9597079e242572c71b978cc10d1859386c6c3f3b043764f7ec81"), looks := false }, kinds := [], alts := [], laidByText := true, laidKinds := [.widerDeep], laidTests := true, laidLooks := .later }
def FnExactIsValidArmsCardSaid : Prop := Claim7.holds Tryd.pinned (.plain (OpenSpec.ofChange fnExactIsValidArmsSpec)) fnExactIsValidArmsCard

/-- THE TIED CARD OF 'laws.FnExactLayerCount'. -/
def fnExactLayerCountCard : Claim7 := { stood := { row := fnExactLayerCountRow, standIns := [], harness := (true, "d1e5bf1e1e7a9597079e242572c71b978cc10d1859386c6c3f3b043764f7ec81"), looks := false }, kinds := [], alts := [], laidByText := true, laidKinds := [.widerDeep], laidTests := true, laidLooks := .later }
def FnExactLayerCountCardSaid : Prop := Claim7.holds Tryd.pinned (.plain (OpenSpec.ofChange fnExactLayerCountSpec)) fnExactLayerCountCard

/-- THE TIED CARD OF 'laws.FnExactArmsTinctures'. -/
def fnExactArmsTincturesCard : Claim7 := { stood := { row := fnExactArmsTincturesRow, standIns := [], harness := (true, "d1e5bf1e1e7a9597079e242572c71b978cc10d1859386c6c3f3b043764f7ec81"), looks := false }, kinds := [], alts := [], laidByText := true, laidKinds := [.widerDeep], laidTests := true, laidLooks := .later }
def FnExactArmsTincturesCardSaid : Prop := Claim7.holds Tryd.pinned (.plain (OpenSpec.ofChange fnExactArmsTincturesSpec)) fnExactArmsTincturesCard

/-- THE TIED CARD OF 'laws.FnExactChargeTotal'. -/
def fnExactChargeTotalCard : Claim7 := { stood := { row := fnExactChargeTotalRow, standIns := [], harness := (true, "d1e5bf1e1e7a9597079e242572c71b978cc10d1859386c6c3f3b043764f7ec81"), looks := false }, kinds := [], alts := [], laidByText := true, laidKinds := [.widerDeep], laidTests := true, laidLooks := .later }
def FnExactChargeTotalCardSaid : Prop := Claim7.holds Tryd.pinned (.plain (OpenSpec.ofChange fnExactChargeTotalSpec)) fnExactChargeTotalCard

/-- THE TIED CARD OF 'laws.FnExactWithField'. -/
def fnExactWithFieldCard : Claim7 := { stood := { row := fnExactWithFieldRow, standIns := [], harness := (true, "d1e5bf1e1e7a9597079e242572c71b978cc10d1859386c6c3f3b043764f7ec81"), looks := false }, kinds := [], alts := [], laidByText := true, laidKinds := [.widerDeep], laidTests := true, laidLooks := .later }
def FnExactWithFieldCardSaid : Prop := Claim7.holds Tryd.pinned (.plain (OpenSpec.ofChange fnExactWithFieldSpec)) fnExactWithFieldCard

/-- THE TIED CARD OF 'laws.FnExactWithOrdinary'. -/
def fnExactWithOrdinaryCard : Claim7 := { stood := { row := fnExactWithOrdinaryRow, standIns := [], harness := (true, "d1e5bf1e1e7a9597079e242572c71b978cc10d1859386c6c3f3b043764f7ec81"), looks := false }, kinds := [], alts := [], laidByText := true, laidKinds := [.widerDeep], laidTests := true, laidLooks := .later }
def FnExactWithOrdinaryCardSaid : Prop := Claim7.holds Tryd.pinned (.plain (OpenSpec.ofChange fnExactWithOrdinarySpec)) fnExactWithOrdinaryCard

/-- THE TIED CARD OF 'laws.FnExactWithGroups'. -/
def fnExactWithGroupsCard : Claim7 := { stood := { row := fnExactWithGroupsRow, standIns := [], harness := (true, "d1e5bf1e1e7a9597079e242572c71b978cc10d1859386c6c3f3b043764f7ec81"), looks := false }, kinds := [], alts := [], laidByText := true, laidKinds := [.widerDeep], laidTests := true, laidLooks := .later }
def FnExactWithGroupsCardSaid : Prop := Claim7.holds Tryd.pinned (.plain (OpenSpec.ofChange fnExactWithGroupsSpec)) fnExactWithGroupsCard

/-- THE TIED CARD OF 'laws.FnExactReplaceTincture'. -/
def fnExactReplaceTinctureCard : Claim7 := { stood := { row := fnExactReplaceTinctureRow, standIns := [], harness := (true, "d1e5bf1e1e7a9597079e242572c71b978cc10d1859386c6c3f3b043764f7ec81"), looks := false }, kinds := [], alts := [], laidByText := true, laidKinds := [.widerDeep], laidTests := true, laidLooks := .later }
def FnExactReplaceTinctureCardSaid : Prop := Claim7.holds Tryd.pinned (.plain (OpenSpec.ofChange fnExactReplaceTinctureSpec)) fnExactReplaceTinctureCard

/-- THE TIED CARD OF 'laws.FnExactSimplest'. -/
def fnExactSimplestCard : Claim7 := { stood := { row := fnExactSimplestRow, standIns := [], harness := (true, "d1e5bf1e1e7a9597079e242572c71b978cc10d1859386c6c3f3b043764f7ec81"), looks := false }, kinds := [], alts := [], laidByText := true, laidKinds := [.widerDeep], laidTests := true, laidLooks := .later }
def FnExactSimplestCardSaid : Prop := Claim7.holds Tryd.pinned (.plain (OpenSpec.ofChange fnExactSimplestSpec)) fnExactSimplestCard

/-- THE TIED CARD OF 'laws.FnExactSameShape'. -/
def fnExactSameShapeCard : Claim7 := { stood := { row := fnExactSameShapeRow, standIns := [], harness := (true, "d1e5bf1e1e7a9597079e242572c71b978cc10d1859386c6c3f3b043764f7ec81"), looks := false }, kinds := [], alts := [], laidByText := true, laidKinds := [.widerDeep], laidTests := true, laidLooks := .later }
def FnExactSameShapeCardSaid : Prop := Claim7.holds Tryd.pinned (.plain (OpenSpec.ofChange fnExactSameShapeSpec)) fnExactSameShapeCard

/-- THE SECOND FORM's CARD OF 'laws.FnArms'. -/
def fnArmsUptoCard : Claim7 := { stood := { row := fnArmsUptoRow, standIns := [], harness := (true, "d1e5bf1e1e7a9597079e242572c71b978cc10d1859386c6c3f3b043764f7ec81"), looks := false }, kinds := [], alts := [], laidByText := true, laidKinds := [.widerDeep], laidTests := true, laidLooks := .later }
def FnArmsUptoCardSaid : Prop := Claim7.holds Tryd.pinned (.plain (OpenSpec.upto fnArmsSpec)) fnArmsUptoCard

/-- THE SECOND FORM's CARD OF 'laws.FnArmsParts'. -/
def fnArmsPartsUptoCard : Claim7 := { stood := { row := fnArmsPartsUptoRow, standIns := [], harness := (true, "d1e5bf1e1e7a9597079e242572c71b978cc10d1859386c6c3f3b043764f7ec81"), looks := false }, kinds := [], alts := [], laidByText := true, laidKinds := [.widerDeep], laidTests := true, laidLooks := .later }
def FnArmsPartsUptoCardSaid : Prop := Claim7.holds Tryd.pinned (.plain (OpenSpec.upto fnArmsPartsSpec)) fnArmsPartsUptoCard

/-- THE SECOND FORM's CARD OF 'laws.FnExactIsValidArms'. -/
def fnExactIsValidArmsUptoCard : Claim7 := { stood := { row := fnExactIsValidArmsUptoRow, standIns := [], harness := (true, "d1e5bf1e1e7a9597079e242572c71b978cc10d1859386c6c3f3b043764f7ec81"), looks := false }, kinds := [], alts := [], laidByText := true, laidKinds := [.widerDeep], laidTests := true, laidLooks := .later }
def FnExactIsValidArmsUptoCardSaid : Prop := Claim7.holds Tryd.pinned (.plain (OpenSpec.upto fnExactIsValidArmsSpec)) fnExactIsValidArmsUptoCard

/-- THE SECOND FORM's CARD OF 'laws.FnExactLayerCount'. -/
def fnExactLayerCountUptoCard : Claim7 := { stood := { row := fnExactLayerCountUptoRow, standIns := [], harness := (true, "d1e5bf1e1e7a9597079e242572c71b978cc10d1859386c6c3f3b043764f7ec81"), looks := false }, kinds := [], alts := [], laidByText := true, laidKinds := [.widerDeep], laidTests := true, laidLooks := .later }
def FnExactLayerCountUptoCardSaid : Prop := Claim7.holds Tryd.pinned (.plain (OpenSpec.upto fnExactLayerCountSpec)) fnExactLayerCountUptoCard

/-- THE SECOND FORM's CARD OF 'laws.FnExactArmsTinctures'. -/
def fnExactArmsTincturesUptoCard : Claim7 := { stood := { row := fnExactArmsTincturesUptoRow, standIns := [], harness := (true, "d1e5bf1e1e7a9597079e242572c71b978cc10d1859386c6c3f3b043764f7ec81"), looks := false }, kinds := [], alts := [], laidByText := true, laidKinds := [.widerDeep], laidTests := true, laidLooks := .later }
def FnExactArmsTincturesUptoCardSaid : Prop := Claim7.holds Tryd.pinned (.plain (OpenSpec.upto fnExactArmsTincturesSpec)) fnExactArmsTincturesUptoCard

/-- THE SECOND FORM's CARD OF 'laws.FnExactChargeTotal'. -/
def fnExactChargeTotalUptoCard : Claim7 := { stood := { row := fnExactChargeTotalUptoRow, standIns := [], harness := (true, "d1e5bf1e1e7a9597079e242572c71b978cc10d1859386c6c3f3b043764f7ec81"), looks := false }, kinds := [], alts := [], laidByText := true, laidKinds := [.widerDeep], laidTests := true, laidLooks := .later }
def FnExactChargeTotalUptoCardSaid : Prop := Claim7.holds Tryd.pinned (.plain (OpenSpec.upto fnExactChargeTotalSpec)) fnExactChargeTotalUptoCard

/-- THE SECOND FORM's CARD OF 'laws.FnExactWithField'. -/
def fnExactWithFieldUptoCard : Claim7 := { stood := { row := fnExactWithFieldUptoRow, standIns := [], harness := (true, "d1e5bf1e1e7a9597079e242572c71b978cc10d1859386c6c3f3b043764f7ec81"), looks := false }, kinds := [], alts := [], laidByText := true, laidKinds := [.widerDeep], laidTests := true, laidLooks := .later }
def FnExactWithFieldUptoCardSaid : Prop := Claim7.holds Tryd.pinned (.plain (OpenSpec.upto fnExactWithFieldSpec)) fnExactWithFieldUptoCard

/-- THE SECOND FORM's CARD OF 'laws.FnExactWithOrdinary'. -/
def fnExactWithOrdinaryUptoCard : Claim7 := { stood := { row := fnExactWithOrdinaryUptoRow, standIns := [], harness := (true, "d1e5bf1e1e7a9597079e242572c71b978cc10d1859386c6c3f3b043764f7ec81"), looks := false }, kinds := [], alts := [], laidByText := true, laidKinds := [.widerDeep], laidTests := true, laidLooks := .later }
def FnExactWithOrdinaryUptoCardSaid : Prop := Claim7.holds Tryd.pinned (.plain (OpenSpec.upto fnExactWithOrdinarySpec)) fnExactWithOrdinaryUptoCard

/-- THE SECOND FORM's CARD OF 'laws.FnExactWithGroups'. -/
def fnExactWithGroupsUptoCard : Claim7 := { stood := { row := fnExactWithGroupsUptoRow, standIns := [], harness := (true, "d1e5bf1e1e7a9597079e242572c71b978cc10d1859386c6c3f3b043764f7ec81"), looks := false }, kinds := [], alts := [], laidByText := true, laidKinds := [.widerDeep], laidTests := true, laidLooks := .later }
def FnExactWithGroupsUptoCardSaid : Prop := Claim7.holds Tryd.pinned (.plain (OpenSpec.upto fnExactWithGroupsSpec)) fnExactWithGroupsUptoCard

/-- THE SECOND FORM's CARD OF 'laws.FnExactReplaceTincture'. -/
def fnExactReplaceTinctureUptoCard : Claim7 := { stood := { row := fnExactReplaceTinctureUptoRow, standIns := [], harness := (true, "d1e5bf1e1e7a9597079e242572c71b978cc10d1859386c6c3f3b043764f7ec81"), looks := false }, kinds := [], alts := [], laidByText := true, laidKinds := [.widerDeep], laidTests := true, laidLooks := .later }
def FnExactReplaceTinctureUptoCardSaid : Prop := Claim7.holds Tryd.pinned (.plain (OpenSpec.upto fnExactReplaceTinctureSpec)) fnExactReplaceTinctureUptoCard

/-- THE SECOND FORM's CARD OF 'laws.FnExactSimplest'. -/
def fnExactSimplestUptoCard : Claim7 := { stood := { row := fnExactSimplestUptoRow, standIns := [], harness := (true, "d1e5bf1e1e7a9597079e242572c71b978cc10d1859386c6c3f3b043764f7ec81"), looks := false }, kinds := [], alts := [], laidByText := true, laidKinds := [.widerDeep], laidTests := true, laidLooks := .later }
def FnExactSimplestUptoCardSaid : Prop := Claim7.holds Tryd.pinned (.plain (OpenSpec.upto fnExactSimplestSpec)) fnExactSimplestUptoCard

/-- THE SECOND FORM's CARD OF 'laws.FnExactSameShape'. -/
def fnExactSameShapeUptoCard : Claim7 := { stood := { row := fnExactSameShapeUptoRow, standIns := [], harness := (true, "d1e5bf1e1e7a9597079e242572c71b978cc10d1859386c6c3f3b043764f7ec81"), looks := false }, kinds := [], alts := [], laidByText := true, laidKinds := [.widerDeep], laidTests := true, laidLooks := .later }
def FnExactSameShapeUptoCardSaid : Prop := Claim7.holds Tryd.pinned (.plain (OpenSpec.upto fnExactSameShapeSpec)) fnExactSameShapeUptoCard
end Rows
end Go.Proofs.YtapjiffililmgaaDoor
