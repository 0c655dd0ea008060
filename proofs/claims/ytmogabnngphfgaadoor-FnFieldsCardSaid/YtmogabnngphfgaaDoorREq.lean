/- Contracts: slices.Equal on lists of ints, of whatever lengths. -/
import Derived.Test.YtmogabnngphfgaaDoorRFields
import Derived.Test.YtmogabnngphfgaaDoorShelf
namespace Go.Proofs.YtmogabnngphfgaaDoor
open Go.RowKit

theorem tincL_pos (d f s : Int) : 1 ≤ (tincL d f s).length := by unfold tincL; split <;> simp
theorem take_len {X : List Int} {n : Nat} (h : X.length = n) : X.take n = X := by rw [← h]; simp
theorem sEqual_any (X Y : List Int) (n m : Nat) (a1 a2 : Option Addr) (c1 c2 : Nat) (w : World) (h1 : RdI w a1 n X) (h2 : RdI w a2 m Y) (hn0 : 1 ≤ n) (hm0 : 1 ≤ m) (hn : n ≤ 1048577) (hm : m ≤ 1048577) (r : Bool) (hr : decide (X = Y) = r) :
    Calls Tryd.prog 35 #[.slice a1 n c1, .slice a2 m c2] w fun e w' => e = .returned (.bool r) ∧ ∃ q, w' = w.drewN q := by
  obtain ⟨b1, o1, rfl, _, g1⟩ := h1.2 hn0
  obtain ⟨b2, o2, rfl, _, g2⟩ := h2.2 hm0
  have l1 := h1.1
  have l2 := h2.1
  refine (Tryd.slices_Equal_int b1 o1 n c1 b2 o2 m c2 X Y w (by omega) (by omega) (by omega) (by omega) (by rw [l1]; exact g1) (by rw [l2]; exact g2)).mono ?_
  rintro e w' ⟨rfl, q, rfl⟩
  rw [take_len l1, take_len l2]
  refine ⟨?_, q, rfl⟩
  have : (X == Y) = r := by rw [← hr]; by_cases h : X = Y <;> simp [h]
  rw [this]
end Go.Proofs.YtmogabnngphfgaaDoor
