/- The words of the attitudes of a kind. -/
import Derived.Test.YtpcghkciibbmgaaDoorBase
namespace Go.Proofs.YtpcghkciibbmgaaDoor

/-- The words of the attitudes of a kind. -/
def attsL (x : Int) : List ByteArray := if x = 1 then [⟨#[114, 97, 109, 112, 97, 110, 116]⟩, ⟨#[112, 97, 115, 115, 97, 110, 116]⟩] else if x = 2 then [⟨#[100, 105, 115, 112, 108, 97, 121, 101, 100]⟩, ⟨#[114, 105, 115, 105, 110, 103]⟩] else if x = 3 then [⟨#[115, 119, 105, 109, 109, 105, 110, 103]⟩, ⟨#[117, 112, 114, 105, 103, 104, 116]⟩] else []
theorem attsL_1 : attsL 1 = [⟨#[114, 97, 109, 112, 97, 110, 116]⟩, ⟨#[112, 97, 115, 115, 97, 110, 116]⟩] := by simp [attsL]
theorem attsL_2 : attsL 2 = [⟨#[100, 105, 115, 112, 108, 97, 121, 101, 100]⟩, ⟨#[114, 105, 115, 105, 110, 103]⟩] := by simp [attsL]
theorem attsL_3 : attsL 3 = [⟨#[115, 119, 105, 109, 109, 105, 110, 103]⟩, ⟨#[117, 112, 114, 105, 103, 104, 116]⟩] := by simp [attsL]
theorem attsL_x {x : Int} (h : x < 1 ∨ 3 < x) : attsL x = [] := by unfold attsL; rw [if_neg (by omega), if_neg (by omega), if_neg (by omega)]
theorem attsL_len (x : Int) : (attsL x).length ≤ 2 := by
  unfold attsL
  split
  · simp
  · split
    · simp
    · split <;> simp
end Go.Proofs.YtpcghkciibbmgaaDoor
