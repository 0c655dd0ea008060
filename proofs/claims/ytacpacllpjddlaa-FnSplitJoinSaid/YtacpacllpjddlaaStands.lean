/- Contracts: the model's l1Stands and Go's strings.Contains at a text of one byte, at every string. -/
import Derived.Test.YtacpacllpjddlaaBase
import Derived.Test.YtacpacllpjddlaaShelf
import Derived.WalkLawsBesides
import Derived.Lib.IndexAny
namespace Go.Proofs.Ytacpacllpjddlaa
open Go.RowKit

/-- Does a byte stand in a list? -/
def has (l : List UInt8) (c : UInt8) : Bool := l.contains c
theorem has_snoc (l : List UInt8) (c d : UInt8) : has (l ++ [d]) c = (has l c || c == d) := by
  unfold has; simp only [List.contains_eq_mem, List.mem_append, List.mem_singleton, Bool.decide_or]; rfl
theorem has_take {s : ByteArray} {k : Nat} (h : k < s.size) (c : UInt8) : has (s.data.toList.take (k + 1)) c = (has (s.data.toList.take k) c || c == s[k]) := by
  rw [take_snoc s k h, has_snoc]
theorem has_of_take {s : ByteArray} {k : Nat} {c : UInt8} (h : has (s.data.toList.take k) c = true) : has s.data.toList c = true := by
  unfold has at *
  simp only [List.contains_iff_mem] at *
  exact List.mem_of_mem_take h
theorem byte_eq {a c : UInt8} (h : a = c) : ((a.toNat : Int) == (c.toNat : Int)) = true := by simp [h]
theorem byte_ne {a c : UInt8} (h : a ≠ c) : ((a.toNat : Int) == (c.toNat : Int)) = false := by
  simp; intro e; exact h (UInt8.toNat_inj.1 (by omega))

set_option maxHeartbeats 400000 in
theorem l1Stands_any (s : ByteArray) (c : UInt8) (w : World) (hs : s.size ≤ maxLen) :
    Calls Try.prog 32 #[.string s, .int .u8 (c.toNat : Int)] w fun e w' => e = .returned (.bool (has s.data.toList c)) ∧ w = w' := by
  unfold maxLen at hs
  go_enter Try.func32, Try.ntmps32
  go_wp2
  go_loop [5] (fun i => ∃ k : Nat, k ≤ s.size ∧ i = .int .i64 k ∧ Hid (has (s.data.toList.take k) c = false)) (fun i => s.size - (intOf i).toNat)
  case atStart => exact ⟨0, Nat.zero_le _, rfl, rfl⟩
  case round =>
    obtain ⟨k, hk, rfl, H⟩ := hrel
    by_cases hlt : k < s.size
    · by_cases hc : s[k] = c
      · have e1 := byte_eq hc
        have HT : Hid (has s.data.toList c = true) := has_of_take (k := k + 1) (by rw [has_take hlt, hc]; simp)
        clear hc
        go_wp2
        go_ret
        exact ⟨by rw [HT.out]; rfl, rfl⟩
      · have e1 := byte_ne hc
        have H1 : Hid (has (s.data.toList.take (k + 1)) c = false) := by
          show _ = _
          rw [has_take hlt, H.out]
          simp; exact fun e => hc e.symm
        clear hc
        go_wp2
        go_round
        case rel => exact ⟨k + 1, by omega, by go_num, H1⟩
        case measure => simp [intOf]; omega
    · have HT : Hid (has s.data.toList c = false) := by
        have h := H.out
        rw [take_all s k (by omega)] at h
        exact h
      go_wp2
      go_ret
      exact ⟨by rw [HT.out]; rfl, rfl⟩

/-- strings.Contains at a text of one byte. -/
theorem contains_c (s : ByteArray) (c : UInt8) (w : World) :
    Calls Try.prog 30 #[.string s, .string ⟨#[c]⟩] w fun e w' => e = .returned (.bool (has s.data.toList c)) ∧ w = w' :=
  (Try.strings_Contains_one s c w).mono fun e w' ⟨he, hw⟩ => ⟨by rw [he, ← Lib.contains_iff_indexByte]; rfl, hw.symm⟩
end Go.Proofs.Ytacpacllpjddlaa
