/-
  DERIVED. GIVEN WITH THE SEED: THE CARDS: each row of YtmmbhglmafnfpaaDoorRows.lean that lists a variable, with what it lists TIED to the program's text (the seventh form; the later family's looks); each row that meets fmt, with fmt's text TOLD by the authors' own Lean function (tested against real Go, not proved from fmt's source: count such statements apart). THE CARD IS WHAT COUNTS. Prove the row's statement (the work); the ties are given (YtmmbhglmafnfpaaDoorTie.lean); close each card by the builder's one call (the guide's Derived/Test/ToyasCard.lean, 'card_holds'). Laid BY PROGRAM, IN A SANDBOX (cutbox-door.mjs). By AI agents, Wed Nov 11 2026. No macro, syntax, notation, axiom, sorry.
-/
import Derived.Test.YtmmbhglmafnfpaaDoorRows
import GoSem.ClaimSeven
namespace Go.Proofs.YtmmbhglmafnfpaaDoor
namespace Rows

/-- THE TIED CARD OF 'laws.FnExactBoundsOf'. -/
def fnExactBoundsOfCard : Claim7 := { stood := { row := fnExactBoundsOfRow, standIns := [], harness := (true, "4db517b36a28239cddba1b968689dc5ce87473428b073d6a10243849c2a2910c"), looks := false }, kinds := [], alts := [], laidByText := true, laidKinds := [.data, .data], laidTests := true, laidLooks := .later }
def FnExactBoundsOfCardSaid : Prop := Claim7.holds Tryd.pinned (.plain (OpenSpec.ofChange fnExactBoundsOfSpec)) fnExactBoundsOfCard

/-- THE TIED CARD OF 'laws.FnRegions'. -/
def fnRegionsCard : Claim7 := { stood := { row := fnRegionsRow, standIns := [], harness := (true, "4db517b36a28239cddba1b968689dc5ce87473428b073d6a10243849c2a2910c"), looks := false }, kinds := [], alts := [], laidByText := true, laidKinds := [.data, .data], laidTests := true, laidLooks := .later }
def FnRegionsCardSaid : Prop := Claim7.holds Tryd.pinned (.plain (OpenSpec.ofChange fnRegionsSpec)) fnRegionsCard

/-- THE SECOND FORM's CARD OF 'laws.FnExactBoundsOf'. -/
def fnExactBoundsOfUptoCard : Claim7 := { stood := { row := fnExactBoundsOfUptoRow, standIns := [], harness := (true, "4db517b36a28239cddba1b968689dc5ce87473428b073d6a10243849c2a2910c"), looks := false }, kinds := [], alts := [], laidByText := true, laidKinds := [.data, .data], laidTests := true, laidLooks := .later }
def FnExactBoundsOfUptoCardSaid : Prop := Claim7.holds Tryd.pinned (.plain (OpenSpec.upto fnExactBoundsOfSpec)) fnExactBoundsOfUptoCard

/-- THE SECOND FORM's CARD OF 'laws.FnRegions'. -/
def fnRegionsUptoCard : Claim7 := { stood := { row := fnRegionsUptoRow, standIns := [], harness := (true, "4db517b36a28239cddba1b968689dc5ce87473428b073d6a10243849c2a2910c"), looks := false }, kinds := [], alts := [], laidByText := true, laidKinds := [.data, .data], laidTests := true, laidLooks := .later }
def FnRegionsUptoCardSaid : Prop := Claim7.holds Tryd.pinned (.plain (OpenSpec.upto fnRegionsSpec)) fnRegionsUptoCard
end Rows
end Go.Proofs.YtmmbhglmafnfpaaDoor
