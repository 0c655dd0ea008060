/-
  DERIVED. GIVEN WITH THE SEED: THE CARDS: each row of YtflfdngcgebmmaaDoorRows.lean that lists a variable, with what it lists TIED to the program's text (the seventh form; the later family's looks); each row that meets fmt, with fmt's text TOLD by the authors' own Lean function (tested against real Go, not proved from fmt's source: count such statements apart). THE CARD IS WHAT COUNTS. Prove the row's statement (the work); the ties are given (YtflfdngcgebmmaaDoorTie.lean); close each card by the builder's one call (the guide's Derived/Test/ToyasCard.lean, 'card_holds'). Laid BY PROGRAM, IN A SANDBOX (cutbox-door.mjs). By AI agents, Wed Nov 11 2026. No macro, syntax, notation, axiom, sorry.
-/
import Derived.Test.YtflfdngcgebmmaaDoorRows
import GoSem.ClaimSeven
namespace Go.Proofs.YtflfdngcgebmmaaDoor
namespace Rows

/-- THE TIED CARD OF 'laws.FnExactTinctureWord'. -/
def fnExactTinctureWordCard : Claim7 := { stood := { row := fnExactTinctureWordRow, standIns := [], harness := (true, "def1b9dc1cae3dde0a3e64ff59d7a85c5aafaa7a28ef1c853f0a583f4893313c"), looks := false }, kinds := [], alts := [], laidByText := true, laidKinds := [.data], laidTests := true, laidLooks := .later }
def FnExactTinctureWordCardSaid : Prop := Claim7.holds Tryd.pinned (.plain (OpenSpec.ofChange fnExactTinctureWordSpec)) fnExactTinctureWordCard

/-- THE TIED CARD OF 'laws.FnExactParseTincture'. -/
def fnExactParseTinctureCard : Claim7 := { stood := { row := fnExactParseTinctureRow, standIns := [], harness := (true, "def1b9dc1cae3dde0a3e64ff59d7a85c5aafaa7a28ef1c853f0a583f4893313c"), looks := false }, kinds := [], alts := [], laidByText := true, laidKinds := [.data], laidTests := true, laidLooks := .later }
def FnExactParseTinctureCardSaid : Prop := Claim7.holds Tryd.pinned (.plain (OpenSpec.ofChange fnExactParseTinctureSpec)) fnExactParseTinctureCard

/-- THE TIED CARD OF 'laws.FnTinctures'. -/
def fnTincturesCard : Claim7 := { stood := { row := fnTincturesRow, standIns := [], harness := (true, "def1b9dc1cae3dde0a3e64ff59d7a85c5aafaa7a28ef1c853f0a583f4893313c"), looks := false }, kinds := [], alts := [], laidByText := true, laidKinds := [.data], laidTests := true, laidLooks := .later }
def FnTincturesCardSaid : Prop := Claim7.holds Tryd.pinned (.plain (OpenSpec.ofChange fnTincturesSpec)) fnTincturesCard

/-- THE SECOND FORM's CARD OF 'laws.FnExactTinctureWord'. -/
def fnExactTinctureWordUptoCard : Claim7 := { stood := { row := fnExactTinctureWordUptoRow, standIns := [], harness := (true, "def1b9dc1cae3dde0a3e64ff59d7a85c5aafaa7a28ef1c853f0a583f4893313c"), looks := false }, kinds := [], alts := [], laidByText := true, laidKinds := [.data], laidTests := true, laidLooks := .later }
def FnExactTinctureWordUptoCardSaid : Prop := Claim7.holds Tryd.pinned (.plain (OpenSpec.upto fnExactTinctureWordSpec)) fnExactTinctureWordUptoCard

/-- THE SECOND FORM's CARD OF 'laws.FnExactParseTincture'. -/
def fnExactParseTinctureUptoCard : Claim7 := { stood := { row := fnExactParseTinctureUptoRow, standIns := [], harness := (true, "def1b9dc1cae3dde0a3e64ff59d7a85c5aafaa7a28ef1c853f0a583f4893313c"), looks := false }, kinds := [], alts := [], laidByText := true, laidKinds := [.data], laidTests := true, laidLooks := .later }
def FnExactParseTinctureUptoCardSaid : Prop := Claim7.holds Tryd.pinned (.plain (OpenSpec.upto fnExactParseTinctureSpec)) fnExactParseTinctureUptoCard

/-- THE SECOND FORM's CARD OF 'laws.FnTinctures'. -/
def fnTincturesUptoCard : Claim7 := { stood := { row := fnTincturesUptoRow, standIns := [], harness := (true, "def1b9dc1cae3dde0a3e64ff59d7a85c5aafaa7a28ef1c853f0a583f4893313c"), looks := false }, kinds := [], alts := [], laidByText := true, laidKinds := [.data], laidTests := true, laidLooks := .later }
def FnTincturesUptoCardSaid : Prop := Claim7.holds Tryd.pinned (.plain (OpenSpec.upto fnTincturesSpec)) fnTincturesUptoCard
end Rows
end Go.Proofs.YtflfdngcgebmmaaDoor
