/- For the laws of fields: a box outlives a write elsewhere. -/
import Derived.Test.YtmogabnngphfgaaRFields
namespace Go.Proofs.Ytmogabnngphfgaa
open Go.RowKit

theorem Box.kept {w w' : World} {b : Nat} {L : List Value} {row : Option Nat} (h : Box w b L) (hg : w.grownBy w' row) (hne : row ≠ some b) : Box w' b L :=
  ⟨Nat.lt_of_lt_of_le h.1 hg.size, fun i v hv => hg.cell (h.2 i v hv) (Ne.symm hne)⟩
end Go.Proofs.Ytmogabnngphfgaa
