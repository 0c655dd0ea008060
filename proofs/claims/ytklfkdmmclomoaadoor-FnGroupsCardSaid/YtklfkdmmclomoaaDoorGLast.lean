/- Contract: the model's cut of a text at its last space. -/
import Derived.Test.YtklfkdmmclomoaaDoorByte
import Derived.Test.YtklfkdmmclomoaaDoorSMath
import Derived.IntWalk
import Derived.Deep.QuietTactic
namespace Go.Proofs.YtklfkdmmclomoaaDoor
open Go.RowKit Go.Lib

/-- No space stands in l. -/
def noSp (l : List UInt8) : Bool := l.all fun x => x != 32
def PLast (s b d : ByteArray) : Prop := (s = b ++ ⟨#[32]⟩ ++ d ∧ noSp d.data.toList = true) ∨ (noSp s.data.toList = true ∧ b = ⟨#[]⟩ ∧ d = s)
theorem noSp_drop {s : ByteArray} {j : Nat} (h : j < s.size) (hn : noSp (s.data.toList.drop (j + 1)) = true) (hc : s[j] ≠ 32) : noSp (s.data.toList.drop j) = true := by
  rw [drop_cons s j h]
  unfold noSp at *
  rw [List.all_cons, hn, Bool.and_true]
  simpa using hc
theorem pLast_hit {s : ByteArray} {j : Nat} (h : j < s.size) (hn : noSp (s.data.toList.drop (j + 1)) = true) (hc : s[j] = 32) : PLast s (s.extract 0 j) (s.extract (j + 1) s.size) := by
  refine .inl ⟨?_, ?_⟩
  · rw [extract_piece, extract_piece, piece_end]
    apply ByteArray.ext
    apply Array.toList_inj.1
    have e := drop_cons s j h
    have e2 : s.data.toList = s.data.toList.take j ++ s.data.toList.drop j := (List.take_append_drop j _).symm
    rw [e, hc] at e2
    have e3 : piece s 0 j = s.data.toList.take j := by unfold piece; simp
    rw [e3]
    simpa [strOf] using e2
  · rw [extract_piece, piece_end]
    simpa [strOf] using hn
set_option maxHeartbeats 2000000 in
theorem l4Last_any (s : ByteArray) (hs : s.size ≤ 1048576) (w : World) :
    Calls Tryd.prog 88 #[.string s] w fun e w' => ∃ b d, e = .returned (.tuple #[.string b, .string d]) ∧ PLast s b d ∧ ∃ q, w' = w.drewN q := by
  have s0 : IntKind.i64.wrap ((s.size : Int) - 1) = (s.size : Int) - 1 := IntWalk.i64_in _ (by omega)
  go_enter Tryd.func88, Tryd.ntmps88
  go_wp2_with fail
  go_loopw [4] (fun x wr => ∃ k q : Nat, k ≤ s.size ∧ ((k = 0 ∧ x = .int .i64 (-1)) ∨ ∃ j : Nat, k = j + 1 ∧ x = .int .i64 (j : Int)) ∧ Hid (noSp (s.data.toList.drop k) = true) ∧ wr = w.drewN q) (fun x _ => (intOf x + 1).toNat)
  case atStart =>
    refine ⟨s.size, 0, Nat.le_refl _, ?_, ?_, rfl⟩
    · rcases Nat.eq_zero_or_pos s.size with h | h
      · exact .inl ⟨h, by rw [h]; rfl⟩
      · exact .inr ⟨s.size - 1, by omega, by congr 1; omega⟩
    · show noSp _ = true
      rw [List.drop_eq_nil_of_le (by simp)]
      rfl
  case round =>
    obtain ⟨k, q, hk, hx, HN, rfl⟩ := hrel
    rcases hx with ⟨rfl, rfl⟩ | ⟨j, rfl, rfl⟩
    · have hn := HN.out
      rw [List.drop_zero] at hn
      have H := Lib.hid hn
      clear hn HN
      go_wp2_with fail
      go_ret2
      exact ⟨_, _, rfl, .inr ⟨H.out, rfl, rfl⟩, _, rfl⟩
    · have hj : j < s.size := by omega
      have e0 : decide ((0 : Int) ≤ (j : Int)) = true := decide_eq_true (by omega)
      by_cases hc : s[j] = 32
      · have hp := Lib.hid (pLast_hit hj HN.out hc)
        have e1 : ((s[j].toNat : Int) == 32) = true := byte_eq hc
        have a1 : (j : Int) ≤ (s.size : Int) := by omega
        have a2 : (0 : Int) ≤ (j : Int) := by omega
        have a3 : (j : Int) + 1 ≤ (s.size : Int) := by omega
        have a4 : (0 : Int) ≤ (j : Int) + 1 := by omega
        have a5 : ((j : Int) + 1).toNat = j + 1 := by omega
        have y1 : IntKind.i64.wrap ((j : Int) + 1) = (j : Int) + 1 := IntWalk.i64_in _ (by omega)
        clear hc HN
        go_wp2_with fail
        go_quiet (fail)
        go_wp2_with fail
        go_ret2
        exact ⟨_, _, rfl, hp.out, _, World.drewN_drewN _ _ _⟩
      · have HN2 := Lib.hid (noSp_drop hj HN.out hc)
        have e1 : ((s[j].toNat : Int) == 32) = false := byte_ne hc
        have y1 : IntKind.i64.wrap ((j : Int) - 1) = (j : Int) - 1 := IntWalk.i64_in _ (by omega)
        clear hc HN
        go_wp2_with fail
        go_roundw
        case rel =>
          refine ⟨j, _, by omega, ?_, HN2, rfl⟩
          rcases Nat.eq_zero_or_pos j with h | h
          · exact .inl ⟨h, by rw [h]; rfl⟩
          · exact .inr ⟨j - 1, by omega, by congr 1; omega⟩
        case measure => first | (simp [intOf]; done) | (simp [intOf]; omega)
end Go.Proofs.YtklfkdmmclomoaaDoor
