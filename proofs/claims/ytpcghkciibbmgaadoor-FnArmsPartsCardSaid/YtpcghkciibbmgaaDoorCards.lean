/-
  DERIVED. GIVEN WITH THE SEED: THE CARDS: each row of YtpcghkciibbmgaaDoorRows.lean that lists a variable, with what it lists TIED to the program's text (the seventh form; the later family's looks); each row that meets fmt, with fmt's text TOLD by the authors' own Lean function (tested against real Go, not proved from fmt's source: count such statements apart). THE CARD IS WHAT COUNTS. Prove the row's statement (the work); the ties are given (YtpcghkciibbmgaaDoorTie.lean); close each card by the builder's one call (the guide's Derived/Test/ToyasCard.lean, 'card_holds'). Laid BY PROGRAM, IN A SANDBOX (cutbox-door.mjs). By AI agents, Wed Nov 11 2026. No macro, syntax, notation, axiom, sorry.
-/
import Derived.Test.YtpcghkciibbmgaaDoorRows
import GoSem.ClaimSeven
namespace Go.Proofs.YtpcghkciibbmgaaDoor
namespace Rows

/-- THE TIED CARD OF 'laws.FnArms'. -/
def fnArmsCard : Claim7 := { stood := { row := fnArmsRow, standIns := [], harness := (true, "a5281958ad2c598ba43efa1fa3093ed376ad2bf3509d44a09e19c35f0c5ef7c0"), looks := false }, kinds := [], alts := [], laidByText := true, laidKinds := [.widerDeep], laidTests := true, laidLooks := .later }
def FnArmsCardSaid : Prop := Claim7.holds Tryd.pinned (.plain (OpenSpec.ofChange fnArmsSpec)) fnArmsCard

/-- THE TIED CARD OF 'laws.FnArmsParts'. -/
def fnArmsPartsCard : Claim7 := { stood := { row := fnArmsPartsRow, standIns := [], harness := (true, "a5281958ad2c598ba43efa1fa3093ed376ad2bf3509d44a09e19c35f0c5ef7c0"), looks := false }, kinds := [], alts := [], laidByText := true, laidKinds := [.widerDeep], laidTests := true, laidLooks := .later }
def FnArmsPartsCardSaid : Prop := Claim7.holds Tryd.pinned (.plain (OpenSpec.ofChange fnArmsPartsSpec)) fnArmsPartsCard

/-- THE SECOND FORM's CARD OF 'laws.FnArms'. -/
def fnArmsUptoCard : Claim7 := { stood := { row := fnArmsUptoRow, standIns := [], harness := (true, "a5281958ad2c598ba43efa1fa3093ed376ad2bf3509d44a09e19c35f0c5ef7c0"), looks := false }, kinds := [], alts := [], laidByText := true, laidKinds := [.widerDeep], laidTests := true, laidLooks := .later }
def FnArmsUptoCardSaid : Prop := Claim7.holds Tryd.pinned (.plain (OpenSpec.upto fnArmsSpec)) fnArmsUptoCard

/-- THE SECOND FORM's CARD OF 'laws.FnArmsParts'. -/
def fnArmsPartsUptoCard : Claim7 := { stood := { row := fnArmsPartsUptoRow, standIns := [], harness := (true, "a5281958ad2c598ba43efa1fa3093ed376ad2bf3509d44a09e19c35f0c5ef7c0"), looks := false }, kinds := [], alts := [], laidByText := true, laidKinds := [.widerDeep], laidTests := true, laidLooks := .later }
def FnArmsPartsUptoCardSaid : Prop := Claim7.holds Tryd.pinned (.plain (OpenSpec.upto fnArmsPartsSpec)) fnArmsPartsUptoCard
end Rows
end Go.Proofs.YtpcghkciibbmgaaDoor
