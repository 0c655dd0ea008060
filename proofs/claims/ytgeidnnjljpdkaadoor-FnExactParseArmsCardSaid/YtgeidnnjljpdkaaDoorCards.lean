/-
  DERIVED. GIVEN WITH THE SEED: THE CARDS: each row of YtgeidnnjljpdkaaDoorRows.lean that lists a variable, with what it lists TIED to the program's text (the seventh form; the later family's looks); each row that meets fmt, with fmt's text TOLD by the authors' own Lean function (tested against real Go, not proved from fmt's source: count such statements apart). THE CARD IS WHAT COUNTS. Prove the row's statement (the work); the ties are given (YtgeidnnjljpdkaaDoorTie.lean); close each card by the builder's one call (the guide's Derived/Test/ToyasCard.lean, 'card_holds'). Laid BY PROGRAM, IN A SANDBOX (cutbox-door.mjs). By AI agents, Wed Nov 11 2026. No macro, syntax, notation, axiom, sorry.
-/
import Derived.Test.YtgeidnnjljpdkaaDoorRows
import GoSem.ClaimSeven
namespace Go.Proofs.YtgeidnnjljpdkaaDoor
namespace Rows

/-- THE TIED CARD OF 'laws.FnOrder'. -/
def fnOrderCard : Claim7 := { stood := { row := fnOrderRow, standIns := [], harness := (true, "c1e30132f1301c75a91746f8ff202ccab251c7c0a8f989c87d959498e36b1b6b"), looks := false }, kinds := [], alts := [], laidByText := true, laidKinds := [.data, .widerDeep, .widerDeep, .widerDeep, .widerDeep, .widerDeep, .widerDeep], laidTests := true, laidLooks := .later }
def FnOrderCardSaid : Prop := Claim7.holds Tryd.pinned (.plain (OpenSpec.ofChange fnOrderSpec)) fnOrderCard

/-- THE TIED CARD OF 'laws.FnExactArmsText'. -/
def fnExactArmsTextCard : Claim7 := { stood := { row := fnExactArmsTextRow, standIns := [], harness := (true, "c1e30132f1301c75a91746f8ff202ccab251c7c0a8f989c87d959498e36b1b6b"), looks := false }, kinds := [], alts := [], laidByText := true, laidKinds := [.data, .widerDeep, .widerDeep, .widerDeep, .widerDeep, .widerDeep, .widerDeep], laidTests := true, laidLooks := .later }
def FnExactArmsTextCardSaid : Prop := Claim7.holds Tryd.pinned (.plain (OpenSpec.ofChange fnExactArmsTextSpec)) fnExactArmsTextCard

/-- THE TIED CARD OF 'laws.FnExactParseArms'. -/
def fnExactParseArmsCard : Claim7 := { stood := { row := fnExactParseArmsRow, standIns := [], harness := (true, "c1e30132f1301c75a91746f8ff202ccab251c7c0a8f989c87d959498e36b1b6b"), looks := false }, kinds := [], alts := [], laidByText := true, laidKinds := [.data, .widerDeep, .widerDeep, .widerDeep, .widerDeep, .widerDeep, .widerDeep], laidTests := true, laidLooks := .later }
def FnExactParseArmsCardSaid : Prop := Claim7.holds Tryd.pinned (.plain (OpenSpec.ofChange fnExactParseArmsSpec)) fnExactParseArmsCard

/-- THE TIED CARD OF 'laws.FnExactOrdinaryText'. -/
def fnExactOrdinaryTextCard : Claim7 := { stood := { row := fnExactOrdinaryTextRow, standIns := [], harness := (true, "c1e30132f1301c75a91746f8ff202ccab251c7c0a8f989c87d959498e36b1b6b"), looks := false }, kinds := [], alts := [], laidByText := true, laidKinds := [.data, .widerDeep, .widerDeep], laidTests := true, laidLooks := .later }
def FnExactOrdinaryTextCardSaid : Prop := Claim7.holds Tryd.pinned (.plain (OpenSpec.ofChange fnExactOrdinaryTextSpec)) fnExactOrdinaryTextCard

/-- THE TIED CARD OF 'laws.FnExactParseOrdinary'. -/
def fnExactParseOrdinaryCard : Claim7 := { stood := { row := fnExactParseOrdinaryRow, standIns := [], harness := (true, "c1e30132f1301c75a91746f8ff202ccab251c7c0a8f989c87d959498e36b1b6b"), looks := false }, kinds := [], alts := [], laidByText := true, laidKinds := [.data, .widerDeep, .widerDeep], laidTests := true, laidLooks := .later }
def FnExactParseOrdinaryCardSaid : Prop := Claim7.holds Tryd.pinned (.plain (OpenSpec.ofChange fnExactParseOrdinarySpec)) fnExactParseOrdinaryCard

/-- THE TIED CARD OF 'laws.FnExactLayerTexts'. -/
def fnExactLayerTextsCard : Claim7 := { stood := { row := fnExactLayerTextsRow, standIns := [], harness := (true, "c1e30132f1301c75a91746f8ff202ccab251c7c0a8f989c87d959498e36b1b6b"), looks := false }, kinds := [], alts := [], laidByText := true, laidKinds := [.data, .widerDeep, .widerDeep, .widerDeep, .widerDeep, .widerDeep, .widerDeep], laidTests := true, laidLooks := .later }
def FnExactLayerTextsCardSaid : Prop := Claim7.holds Tryd.pinned (.plain (OpenSpec.ofChange fnExactLayerTextsSpec)) fnExactLayerTextsCard

/-- THE TIED CARD OF 'laws.FnExactWordCount'. -/
def fnExactWordCountCard : Claim7 := { stood := { row := fnExactWordCountRow, standIns := [], harness := (true, "c1e30132f1301c75a91746f8ff202ccab251c7c0a8f989c87d959498e36b1b6b"), looks := false }, kinds := [], alts := [], laidByText := true, laidKinds := [.data, .data, .widerDeep, .widerDeep, .widerDeep, .widerDeep, .widerDeep, .widerDeep, .pinned], laidTests := true, laidLooks := .later }
def FnExactWordCountCardSaid : Prop := Claim7.holds Tryd.pinned (.plain (OpenSpec.ofChange fnExactWordCountSpec)) fnExactWordCountCard

/-- THE TIED CARD OF 'laws.FnExactWrapArms'. -/
def fnExactWrapArmsCard : Claim7 := { stood := { row := fnExactWrapArmsRow, standIns := [], harness := (true, "c1e30132f1301c75a91746f8ff202ccab251c7c0a8f989c87d959498e36b1b6b"), looks := false }, kinds := [], alts := [], laidByText := true, laidKinds := [.data, .data, .widerDeep, .widerDeep, .widerDeep, .widerDeep, .widerDeep, .widerDeep, .pinned], laidTests := true, laidLooks := .later }
def FnExactWrapArmsCardSaid : Prop := Claim7.holds Tryd.pinned (.plain (OpenSpec.ofChange fnExactWrapArmsSpec)) fnExactWrapArmsCard

/-- THE TIED CARD OF 'laws.FnExactArmsBefore'. -/
def fnExactArmsBeforeCard : Claim7 := { stood := { row := fnExactArmsBeforeRow, standIns := [], harness := (true, "c1e30132f1301c75a91746f8ff202ccab251c7c0a8f989c87d959498e36b1b6b"), looks := false }, kinds := [], alts := [], laidByText := true, laidKinds := [.data, .widerDeep, .widerDeep, .widerDeep, .widerDeep, .widerDeep, .widerDeep], laidTests := true, laidLooks := .later }
def FnExactArmsBeforeCardSaid : Prop := Claim7.holds Tryd.pinned (.plain (OpenSpec.ofChange fnExactArmsBeforeSpec)) fnExactArmsBeforeCard

/-- THE TIED CARD OF 'laws.FnExactSortArms'. -/
def fnExactSortArmsCard : Claim7 := { stood := { row := fnExactSortArmsRow, standIns := [], harness := (true, "c1e30132f1301c75a91746f8ff202ccab251c7c0a8f989c87d959498e36b1b6b"), looks := false }, kinds := [], alts := [], laidByText := true, laidKinds := [.data, .widerDeep, .widerDeep, .widerDeep, .widerDeep, .widerDeep, .widerDeep], laidTests := true, laidLooks := .later }
def FnExactSortArmsCardSaid : Prop := Claim7.holds Tryd.pinned (.plain (OpenSpec.ofChange fnExactSortArmsSpec)) fnExactSortArmsCard

/-- THE SECOND FORM's CARD OF 'laws.FnOrder'. -/
def fnOrderUptoCard : Claim7 := { stood := { row := fnOrderUptoRow, standIns := [], harness := (true, "c1e30132f1301c75a91746f8ff202ccab251c7c0a8f989c87d959498e36b1b6b"), looks := false }, kinds := [], alts := [], laidByText := true, laidKinds := [.data, .widerDeep, .widerDeep, .widerDeep, .widerDeep, .widerDeep, .widerDeep], laidTests := true, laidLooks := .later }
def FnOrderUptoCardSaid : Prop := Claim7.holds Tryd.pinned (.plain (OpenSpec.upto fnOrderSpec)) fnOrderUptoCard

/-- THE SECOND FORM's CARD OF 'laws.FnExactArmsText'. -/
def fnExactArmsTextUptoCard : Claim7 := { stood := { row := fnExactArmsTextUptoRow, standIns := [], harness := (true, "c1e30132f1301c75a91746f8ff202ccab251c7c0a8f989c87d959498e36b1b6b"), looks := false }, kinds := [], alts := [], laidByText := true, laidKinds := [.data, .widerDeep, .widerDeep, .widerDeep, .widerDeep, .widerDeep, .widerDeep], laidTests := true, laidLooks := .later }
def FnExactArmsTextUptoCardSaid : Prop := Claim7.holds Tryd.pinned (.plain (OpenSpec.upto fnExactArmsTextSpec)) fnExactArmsTextUptoCard

/-- THE SECOND FORM's CARD OF 'laws.FnExactParseArms'. -/
def fnExactParseArmsUptoCard : Claim7 := { stood := { row := fnExactParseArmsUptoRow, standIns := [], harness := (true, "c1e30132f1301c75a91746f8ff202ccab251c7c0a8f989c87d959498e36b1b6b"), looks := false }, kinds := [], alts := [], laidByText := true, laidKinds := [.data, .widerDeep, .widerDeep, .widerDeep, .widerDeep, .widerDeep, .widerDeep], laidTests := true, laidLooks := .later }
def FnExactParseArmsUptoCardSaid : Prop := Claim7.holds Tryd.pinned (.plain (OpenSpec.upto fnExactParseArmsSpec)) fnExactParseArmsUptoCard

/-- THE SECOND FORM's CARD OF 'laws.FnExactOrdinaryText'. -/
def fnExactOrdinaryTextUptoCard : Claim7 := { stood := { row := fnExactOrdinaryTextUptoRow, standIns := [], harness := (true, "c1e30132f1301c75a91746f8ff202ccab251c7c0a8f989c87d959498e36b1b6b"), looks := false }, kinds := [], alts := [], laidByText := true, laidKinds := [.data, .widerDeep, .widerDeep], laidTests := true, laidLooks := .later }
def FnExactOrdinaryTextUptoCardSaid : Prop := Claim7.holds Tryd.pinned (.plain (OpenSpec.upto fnExactOrdinaryTextSpec)) fnExactOrdinaryTextUptoCard

/-- THE SECOND FORM's CARD OF 'laws.FnExactParseOrdinary'. -/
def fnExactParseOrdinaryUptoCard : Claim7 := { stood := { row := fnExactParseOrdinaryUptoRow, standIns := [], harness := (true, "c1e30132f1301c75a91746f8ff202ccab251c7c0a8f989c87d959498e36b1b6b"), looks := false }, kinds := [], alts := [], laidByText := true, laidKinds := [.data, .widerDeep, .widerDeep], laidTests := true, laidLooks := .later }
def FnExactParseOrdinaryUptoCardSaid : Prop := Claim7.holds Tryd.pinned (.plain (OpenSpec.upto fnExactParseOrdinarySpec)) fnExactParseOrdinaryUptoCard

/-- THE SECOND FORM's CARD OF 'laws.FnExactLayerTexts'. -/
def fnExactLayerTextsUptoCard : Claim7 := { stood := { row := fnExactLayerTextsUptoRow, standIns := [], harness := (true, "c1e30132f1301c75a91746f8ff202ccab251c7c0a8f989c87d959498e36b1b6b"), looks := false }, kinds := [], alts := [], laidByText := true, laidKinds := [.data, .widerDeep, .widerDeep, .widerDeep, .widerDeep, .widerDeep, .widerDeep], laidTests := true, laidLooks := .later }
def FnExactLayerTextsUptoCardSaid : Prop := Claim7.holds Tryd.pinned (.plain (OpenSpec.upto fnExactLayerTextsSpec)) fnExactLayerTextsUptoCard

/-- THE SECOND FORM's CARD OF 'laws.FnExactWordCount'. -/
def fnExactWordCountUptoCard : Claim7 := { stood := { row := fnExactWordCountUptoRow, standIns := [], harness := (true, "c1e30132f1301c75a91746f8ff202ccab251c7c0a8f989c87d959498e36b1b6b"), looks := false }, kinds := [], alts := [], laidByText := true, laidKinds := [.data, .data, .widerDeep, .widerDeep, .widerDeep, .widerDeep, .widerDeep, .widerDeep, .pinned], laidTests := true, laidLooks := .later }
def FnExactWordCountUptoCardSaid : Prop := Claim7.holds Tryd.pinned (.plain (OpenSpec.upto fnExactWordCountSpec)) fnExactWordCountUptoCard

/-- THE SECOND FORM's CARD OF 'laws.FnExactWrapArms'. -/
def fnExactWrapArmsUptoCard : Claim7 := { stood := { row := fnExactWrapArmsUptoRow, standIns := [], harness := (true, "c1e30132f1301c75a91746f8ff202ccab251c7c0a8f989c87d959498e36b1b6b"), looks := false }, kinds := [], alts := [], laidByText := true, laidKinds := [.data, .data, .widerDeep, .widerDeep, .widerDeep, .widerDeep, .widerDeep, .widerDeep, .pinned], laidTests := true, laidLooks := .later }
def FnExactWrapArmsUptoCardSaid : Prop := Claim7.holds Tryd.pinned (.plain (OpenSpec.upto fnExactWrapArmsSpec)) fnExactWrapArmsUptoCard

/-- THE SECOND FORM's CARD OF 'laws.FnExactArmsBefore'. -/
def fnExactArmsBeforeUptoCard : Claim7 := { stood := { row := fnExactArmsBeforeUptoRow, standIns := [], harness := (true, "c1e30132f1301c75a91746f8ff202ccab251c7c0a8f989c87d959498e36b1b6b"), looks := false }, kinds := [], alts := [], laidByText := true, laidKinds := [.data, .widerDeep, .widerDeep, .widerDeep, .widerDeep, .widerDeep, .widerDeep], laidTests := true, laidLooks := .later }
def FnExactArmsBeforeUptoCardSaid : Prop := Claim7.holds Tryd.pinned (.plain (OpenSpec.upto fnExactArmsBeforeSpec)) fnExactArmsBeforeUptoCard

/-- THE SECOND FORM's CARD OF 'laws.FnExactSortArms'. -/
def fnExactSortArmsUptoCard : Claim7 := { stood := { row := fnExactSortArmsUptoRow, standIns := [], harness := (true, "c1e30132f1301c75a91746f8ff202ccab251c7c0a8f989c87d959498e36b1b6b"), looks := false }, kinds := [], alts := [], laidByText := true, laidKinds := [.data, .widerDeep, .widerDeep, .widerDeep, .widerDeep, .widerDeep, .widerDeep], laidTests := true, laidLooks := .later }
def FnExactSortArmsUptoCardSaid : Prop := Claim7.holds Tryd.pinned (.plain (OpenSpec.upto fnExactSortArmsSpec)) fnExactSortArmsUptoCard
end Rows
end Go.Proofs.YtgeidnnjljpdkaaDoor
