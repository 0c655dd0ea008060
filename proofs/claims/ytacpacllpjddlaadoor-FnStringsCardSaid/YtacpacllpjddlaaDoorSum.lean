/- Contracts: the program's Checksum, the model's sum and Checksum, at every string. -/
import Derived.Test.YtacpacllpjddlaaDoorBase
import Derived.Test.YtacpacllpjddlaaDoorProg
import Derived.WalkKit
import Derived.WalkLawsBesides
import Derived.Lib.Hide
namespace Go.Proofs.YtacpacllpjddlaaDoor
open Go.RowKit

def sumStep (h : Nat) (c : UInt8) : Nat := (41 * h + c.toNat + 1) % 999979
def sumOf (l : List UInt8) : Nat := l.foldl sumStep 7
theorem sumOf_le (l : List UInt8) : sumOf l < 999979 := by
  unfold sumOf
  suffices h : ∀ (l : List UInt8) (a : Nat), a < 999979 → l.foldl sumStep a < 999979 from h l 7 (by omega)
  intro l
  induction l with
  | nil => intro a h; exact h
  | cons c l ih => intro a h; exact ih _ (Nat.mod_lt _ (by omega))
theorem sumOf_snoc (l : List UInt8) (c : UInt8) : sumOf (l ++ [c]) = (41 * sumOf l + c.toNat + 1) % 999979 := by
  unfold sumOf; rw [List.foldl_append]; rfl

set_option maxHeartbeats 400000 in
theorem l1Sum_any (s : ByteArray) (w : World) (hs : s.size ≤ maxLen) :
    Calls Tryd.prog 39 #[.string s] w fun e w' => e = .returned (.int .i64 (sumOf s.data.toList)) ∧ w = w' := by
  unfold maxLen at hs
  go_enter Tryd.func39, Tryd.ntmps39
  go_wp2
  go_loop [3, 4] (fun n i => ∃ k : Nat, k ≤ s.size ∧ i = .int .i64 k ∧ n = .int .i64 (sumOf (s.data.toList.take k))) (fun _ i => s.size - (intOf i).toNat)
  case atStart => exact ⟨0, Nat.zero_le _, rfl, rfl⟩
  case round =>
    obtain ⟨k, hk, rfl, rfl⟩ := hrel
    have hd := sumOf_le (s.data.toList.take k)
    by_cases hlt : k < s.size
    · have hb : s[k].toNat < 256 := UInt8.toNat_lt _
      have HS : Hid (sumOf (s.data.toList.take (k + 1)) = (41 * sumOf (s.data.toList.take k) + s[k].toNat + 1) % 999979) := by
        rw [take_snoc s k hlt]; exact sumOf_snoc _ _
      go_wp2
      go_round
      case rel => exact ⟨k + 1, by omega, by go_num, by rw [HS.out]; go_num⟩
      case measure => simp [intOf]; omega
    · go_wp2
      go_ret
      exact ⟨by rw [List.take_of_length_le (by simp; omega)]; rfl, rfl⟩

theorem checksum_impl (s : ByteArray) (w : World) (hs : s.size ≤ maxLen) (h : (s.size : Int) ≤ 4000) :
    Calls Tryd.prog 30 #[.string s] w fun e w' => e = .returned (.tuple #[.int .i64 (sumOf s.data.toList), .bool true]) ∧ w = w' := by
  unfold maxLen at hs
  go_enter Tryd.func30, Tryd.ntmps30
  go_wp2
  go_loop [4, 11] (fun n i => ∃ k : Nat, k ≤ s.size ∧ i = .int .i64 k ∧ n = .int .i64 (sumOf (s.data.toList.take k))) (fun _ i => s.size - (intOf i).toNat)
  case atStart => exact ⟨0, Nat.zero_le _, rfl, rfl⟩
  case round =>
    obtain ⟨k, hk, rfl, rfl⟩ := hrel
    have hd := sumOf_le (s.data.toList.take k)
    by_cases hlt : k < s.size
    · have hb : s[k].toNat < 256 := UInt8.toNat_lt _
      have HS : Hid (sumOf (s.data.toList.take (k + 1)) = (41 * sumOf (s.data.toList.take k) + s[k].toNat + 1) % 999979) := by
        rw [take_snoc s k hlt]; exact sumOf_snoc _ _
      go_wp2
      go_round
      case rel => exact ⟨k + 1, by omega, by go_num, by rw [HS.out]; go_num⟩
      case measure => simp [intOf]; omega
    · go_wp2
      go_ret2
      exact ⟨by rw [List.take_of_length_le (by simp; omega)]; rfl, rfl⟩

end Go.Proofs.YtacpacllpjddlaaDoor
