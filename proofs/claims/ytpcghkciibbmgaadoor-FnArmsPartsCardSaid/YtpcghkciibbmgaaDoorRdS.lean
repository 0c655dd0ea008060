/- A slice that reads as strings. -/
import Derived.Test.YtpcghkciibbmgaaDoorBase
namespace Go.Proofs.YtpcghkciibbmgaaDoor
open Go.RowKit

/-- The slice of address a and length n reads as these strings; its cells are old ones. -/
def RdS (w : World) (a : Option Addr) (n : Nat) (xs : List ByteArray) : Prop :=
  xs.length = n ∧ (0 < n → ∃ b o, a = some ⟨b, o, none⟩ ∧ b < w.heap.size ∧ ∀ k, k < n → w.cell? ⟨b, o + k, none⟩ = some (.string (xs.getD k ByteArray.empty)))
theorem RdS.below {w w' : World} {a : Option Addr} {n : Nat} {xs : List ByteArray} (h : RdS w a n xs) (hb : Below w.heap.size w w') : RdS w' a n xs :=
  ⟨h.1, fun hn => by
    obtain ⟨b, o, e, hlt, hc⟩ := h.2 hn
    exact ⟨b, o, e, Nat.lt_of_lt_of_le hlt hb.size, fun k hk => (hb.cell (p := ⟨b, o + k, none⟩) hlt).trans (hc k hk)⟩⟩
theorem RdS.drewN {w : World} {a : Option Addr} {n : Nat} {xs : List ByteArray} (h : RdS w a n xs) (m : Nat) : RdS (w.drewN m) a n xs := h

end Go.Proofs.YtpcghkciibbmgaaDoor
