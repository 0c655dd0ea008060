/- Contracts: the program's and the model's AppendChecksum, at every string. -/
import Derived.Test.YtacpacllpjddlaaDoorStands
import Derived.Test.YtacpacllpjddlaaDoorSum
import Derived.Test.YtacpacllpjddlaaDoorFmt
namespace Go.Proofs.YtacpacllpjddlaaDoor
open Go.RowKit

def sealOf (s : ByteArray) : ByteArray := s ++ { data := #[35] } ++ strOf (Lib.itoa (sumOf s.data.toList))
theorem seal_size (s : ByteArray) : s.size + 2 ≤ (sealOf s).size ∧ (sealOf s).size ≤ s.size + 21 := by
  have h := sumOf_le s.data.toList
  have h0 : Lib.itoa (sumOf s.data.toList : Int) = Lib.decDigits (sumOf s.data.toList) := by
    unfold Lib.itoa; rw [if_neg (by omega)]; rfl
  have h1 := Lib.nDigits_le20 (sumOf s.data.toList) (by omega)
  have h2 := Lib.nDigits_pos (sumOf s.data.toList)
  unfold sealOf
  rw [ByteArray.size_append, ByteArray.size_append, size_strOf, h0, Lib.decDigits_length]
  have h3 : ({ data := #[35] } : ByteArray).size = 1 := rfl
  omega
theorem itoa_sum_size (l : List UInt8) : (strOf (Lib.itoa (sumOf l))).size ≤ 20 := by
  have h := sumOf_le l
  have h0 : Lib.itoa (sumOf l : Int) = Lib.decDigits (sumOf l) := by unfold Lib.itoa; rw [if_neg (by omega)]; rfl
  rw [size_strOf, h0, Lib.decDigits_length]
  exact Lib.nDigits_le20 _ (by omega)

theorem l1Seal_any (s : ByteArray) (w : World) (hs : (s.size : Int) ≤ 4000) :
    Calls Tryd.prog 33 #[.string s] w fun e w' => e = .returned (.string (sealOf s)) ∧ ∃ m, w' = w.drewN m := by
  have h1 := sumOf_le s.data.toList
  have h2 := itoa_sum_size s.data.toList
  have c1 := l1Sum_any s w (by unfold maxLen; omega)
  have c2 := fun wx => l1Num_any (sumOf s.data.toList) wx (by omega) (by omega)
  go_enter Tryd.func33, Tryd.ntmps33
  go_wp2_with (first | (go_at_call 39; refine c1.mono ?_; rintro e w' ⟨rfl, rfl⟩) | (go_at_call 25; refine (c2 _).mono ?_; rintro e w' ⟨rfl, m, rfl⟩))
  go_ret
  exact ⟨rfl, _, rfl⟩

/-- The string can be sealed. -/
def CanSeal (s : ByteArray) : Prop := s.size ≤ 4000 ∧ has s.data.toList 35 = false ∧ (sealOf s).size ≤ 4000

theorem stands35 (s : ByteArray) (w : World) (hs : s.size ≤ maxLen) :
    Calls Tryd.prog 32 #[.string s, .int .u8 35] w fun e w' => e = .returned (.bool (has s.data.toList 35)) ∧ w = w' := l1Stands_any s 35 w hs
theorem contains35 (s : ByteArray) (w : World) :
    Calls Tryd.prog 31 #[.string s, .string { data := #[35] }] w fun e w' => e = .returned (.bool (has s.data.toList 35)) ∧ w = w' := contains_c s 35 w

theorem append_spec (s : ByteArray) (w : World) (h : CanSeal s) :
    Calls Tryd.prog 17 #[.string s] w fun e w' => e = .returned (.tuple #[.string (sealOf s), .bool true]) ∧ ∃ m, w' = w.drewN m := by
  obtain ⟨h0, h1, h2⟩ := h
  have e0 : decide ((4000 : Int) < (s.size : Int)) = false := by simp; omega
  have e2 : decide ((4000 : Int) < ((sealOf s).size : Int)) = false := by simp; omega
  have c1 := stands35 s w (by unfold maxLen; omega)
  have c2 := fun wx => l1Seal_any s wx (by omega)
  clear h2
  go_enter Tryd.func17, Tryd.ntmps17
  go_wp2_with (first | (go_at_call 32; refine c1.mono ?_; rintro e w' ⟨rfl, rfl⟩) | (go_at_call 33; refine (c2 _).mono ?_; rintro e w' ⟨rfl, m, rfl⟩))
  go_ret2
  exact ⟨rfl, _, rfl⟩

theorem append_spec_no (s : ByteArray) (w : World) (hs : s.size ≤ maxLen) (h : ¬ CanSeal s) :
    Calls Tryd.prog 17 #[.string s] w fun e w' => e = .returned (.tuple #[.string ByteArray.empty, .bool false]) ∧ ∃ m, w' = w.drewN m := by
  unfold maxLen at hs
  by_cases h0 : (4000 : Int) < (s.size : Int)
  · have e0 : decide ((4000 : Int) < (s.size : Int)) = true := by simp; omega
    clear h
    go_enter Tryd.func17, Tryd.ntmps17
    go_wp2_with fail
    go_ret2
    exact ⟨rfl, 0, rfl⟩
  · have e0 : decide ((4000 : Int) < (s.size : Int)) = false := by simp; omega
    have c1 := stands35 s w (by unfold maxLen; omega)
    have c2 := fun wx => l1Seal_any s wx (by omega)
    by_cases h1 : has s.data.toList 35 = true
    · clear h h0
      go_enter Tryd.func17, Tryd.ntmps17
      go_wp2_with (first | (go_at_call 32; refine c1.mono ?_; rintro e w' ⟨rfl, rfl⟩) | (go_at_call 33; refine (c2 _).mono ?_; rintro e w' ⟨rfl, m, rfl⟩))
      go_ret2
      exact ⟨rfl, 0, rfl⟩
    · have h1' : has s.data.toList 35 = false := by simpa using h1
      have h2 : 4000 < (sealOf s).size := by
        rcases Nat.lt_or_ge 4000 (sealOf s).size with h2 | h2
        · exact h2
        · exact absurd ⟨by omega, h1', h2⟩ h
      have e2 : decide ((4000 : Int) < ((sealOf s).size : Int)) = true := by simp; omega
      clear h h0 h1 h2
      go_enter Tryd.func17, Tryd.ntmps17
      go_wp2_with (first | (go_at_call 32; refine c1.mono ?_; rintro e w' ⟨rfl, rfl⟩) | (go_at_call 33; refine (c2 _).mono ?_; rintro e w' ⟨rfl, m, rfl⟩))
      go_ret2
      exact ⟨rfl, _, rfl⟩

theorem checksum_impl_big (s : ByteArray) (w : World) (h : (4000 : Int) < (s.size : Int)) :
    Calls Tryd.prog 30 #[.string s] w fun e w' => e = .returned (.tuple #[.int .i64 0, .bool false]) ∧ w = w' := by
  go_enter Tryd.func30, Tryd.ntmps30
  go_wp2
  go_ret2
  exact ⟨rfl, rfl⟩

theorem append_impl (s : ByteArray) (w : World) (h : CanSeal s) (hT : Lib.TabIs Tryd.prog w "internal/strconv.uint64pow10" .u64 Lib.pow10Tab) :
    Calls Tryd.prog 16 #[.string s] w fun e w' => e = .returned (.tuple #[.string (sealOf s), .bool true]) ∧ Below w.heap.size w w' := by
  obtain ⟨h0, h1, h2⟩ := h
  have hb := sumOf_le s.data.toList
  have hz := itoa_sum_size s.data.toList
  have c0 := checksum_impl s w (by unfold maxLen; omega) (by omega)
  have c1 := contains35 s w
  have c2 := itoa_c (sumOf s.data.toList) w (by omega) (by omega) hT
  obtain ⟨V, hV⟩ : ∃ V, s ++ { data := #[35] } ++ strOf (Lib.itoa (sumOf s.data.toList)) = V := ⟨_, rfl⟩
  have HV : Hid (sealOf s = V) := hV
  have e2 : decide ((4000 : Int) < (V.size : Int)) = false := by rw [← HV.out]; simp; omega
  clear h2 hT
  go_enter Tryd.func16, Tryd.ntmps16
  go_wp2_with (first | (go_at_call 30; refine c0.mono ?_; rintro e w' ⟨rfl, rfl⟩) | (go_at_call 31; refine c1.mono ?_; rintro e w' ⟨rfl, rfl⟩) | (go_at_call 23; refine c2.mono ?_; rintro e w' ⟨rfl, hbw⟩))
  go_ret2
  exact ⟨by rw [HV.out]; rfl, hbw⟩

theorem append_impl_no (s : ByteArray) (w : World) (hs : s.size ≤ maxLen) (h : ¬ CanSeal s) (hT : Lib.TabIs Tryd.prog w "internal/strconv.uint64pow10" .u64 Lib.pow10Tab) :
    Calls Tryd.prog 16 #[.string s] w fun e w' => e = .returned (.tuple #[.string ByteArray.empty, .bool false]) ∧ Below w.heap.size w w' := by
  unfold maxLen at hs
  by_cases h0 : (4000 : Int) < (s.size : Int)
  · have c0 := checksum_impl_big s w h0
    clear h hT
    go_enter Tryd.func16, Tryd.ntmps16
    go_wp2_with (go_at_call 30; refine c0.mono ?_; rintro e w' ⟨rfl, rfl⟩)
    go_ret2
    exact ⟨rfl, Below.refl _ _⟩
  · have hb := sumOf_le s.data.toList
    have hz := itoa_sum_size s.data.toList
    have c0 := checksum_impl s w (by unfold maxLen; omega) (by omega)
    have c1 := contains35 s w
    have c2 := itoa_c (sumOf s.data.toList) w (by omega) (by omega) hT
    by_cases h1 : has s.data.toList 35 = true
    · clear h hT
      go_enter Tryd.func16, Tryd.ntmps16
      go_wp2_with (first | (go_at_call 30; refine c0.mono ?_; rintro e w' ⟨rfl, rfl⟩) | (go_at_call 31; refine c1.mono ?_; rintro e w' ⟨rfl, rfl⟩))
      go_ret2
      exact ⟨rfl, Below.refl _ _⟩
    · have h1' : has s.data.toList 35 = false := by simpa using h1
      have h2 : 4000 < (sealOf s).size := by
        rcases Nat.lt_or_ge 4000 (sealOf s).size with h2 | h2
        · exact h2
        · exact absurd ⟨by omega, h1', h2⟩ h
      obtain ⟨V, hV⟩ : ∃ V, s ++ { data := #[35] } ++ strOf (Lib.itoa (sumOf s.data.toList)) = V := ⟨_, rfl⟩
      have HV : Hid (sealOf s = V) := hV
      have e2 : decide ((4000 : Int) < (V.size : Int)) = true := by rw [← HV.out]; simp; omega
      clear h h1 h2 hT
      go_enter Tryd.func16, Tryd.ntmps16
      go_wp2_with (first | (go_at_call 30; refine c0.mono ?_; rintro e w' ⟨rfl, rfl⟩) | (go_at_call 31; refine c1.mono ?_; rintro e w' ⟨rfl, rfl⟩) | (go_at_call 23; refine c2.mono ?_; rintro e w' ⟨rfl, hbw⟩))
      go_ret2
      exact ⟨rfl, hbw⟩
end Go.Proofs.YtacpacllpjddlaaDoor
