/- Plain facts on splitting and joining lists of bytes. Nothing here speaks of the program. -/
import Derived.Test.YtklfkdmmclomoaaDoorBase
namespace Go.Proofs.YtklfkdmmclomoaaDoor

/-- The pieces between the bytes c: 'cur' is what the present piece holds already. -/
def splitAcc (c : UInt8) (cur : List UInt8) : List UInt8 → List (List UInt8)
  | [] => [cur]
  | x :: r => if x = c then cur :: splitAcc c [] r else splitAcc c (cur ++ [x]) r
def splitL (c : UInt8) (l : List UInt8) : List (List UInt8) := splitAcc c [] l
theorem splitAcc_ne (c : UInt8) (l : List UInt8) : ∀ cur, splitAcc c cur l ≠ [] := by
  induction l with
  | nil => intro cur; simp [splitAcc]
  | cons x r ih => intro cur; rw [splitAcc]; split; · simp
                   exact ih _
theorem splitAcc_len (c : UInt8) (l : List UInt8) : ∀ cur, (splitAcc c cur l).length ≤ l.length + 1 := by
  induction l with
  | nil => intro cur; simp [splitAcc]
  | cons x r ih =>
    intro cur; rw [splitAcc]; split
    · have := ih []; simp; omega
    · have := ih (cur ++ [x]); simp; omega
theorem splitL_len (c : UInt8) (l : List UInt8) : 1 ≤ (splitL c l).length ∧ (splitL c l).length ≤ l.length + 1 := by
  have h := splitAcc_ne c l []
  refine ⟨?_, splitAcc_len c l []⟩
  cases hx : splitL c l with
  | nil => exact absurd hx h
  | cons a b => simp
/-- The piece of s from a to b. -/
def piece (s : ByteArray) (a b : Nat) : List UInt8 := (s.data.toList.take b).drop a
theorem extract_piece (s : ByteArray) (a b : Nat) : s.extract a b = strOf (piece s a b) := by
  apply ByteArray.ext
  apply Array.toList_inj.1
  show (s.extract a b).data.toList = piece s a b
  rw [ByteArray.data_extract]
  unfold piece
  rw [List.drop_take]
  simp
theorem piece_self (s : ByteArray) (a : Nat) : piece s a a = [] := by
  unfold piece; exact List.drop_eq_nil_of_le (by have := List.length_take_le a s.data.toList; omega)
theorem piece_snoc (s : ByteArray) (a k : Nat) (h : k < s.size) (ha : a ≤ k) : piece s a (k + 1) = piece s a k ++ [s[k]] := by
  unfold piece
  rw [take_snoc s k h, List.drop_append_of_le_length (by rw [List.length_take]; simp; omega)]
theorem piece_end (s : ByteArray) (a : Nat) : piece s a s.size = s.data.toList.drop a := by
  unfold piece; rw [take_all s _ (Nat.le_refl _)]

def SplitAt (s : ByteArray) (c : UInt8) (ps : List (List UInt8)) (a k : Nat) : Prop :=
  ps ++ splitAcc c (piece s a k) (s.data.toList.drop k) = splitL c s.data.toList
theorem splitAt_start (s : ByteArray) (c : UInt8) : SplitAt s c [] 0 0 := by
  unfold SplitAt; rw [piece_self]; rfl
theorem splitAt_hit {s : ByteArray} {c : UInt8} {ps : List (List UInt8)} {a k : Nat} (h : SplitAt s c ps a k) (hk : k < s.size) (hc : s[k] = c) :
    SplitAt s c (ps ++ [piece s a k]) (k + 1) (k + 1) := by
  unfold SplitAt at *
  rw [drop_cons s k hk, splitAcc, if_pos hc] at h
  rw [piece_self, ← h]
  simp
theorem splitAt_miss {s : ByteArray} {c : UInt8} {ps : List (List UInt8)} {a k : Nat} (h : SplitAt s c ps a k) (hk : k < s.size) (ha : a ≤ k) (hc : s[k] ≠ c) :
    SplitAt s c ps a (k + 1) := by
  unfold SplitAt at *
  rw [drop_cons s k hk, splitAcc, if_neg hc] at h
  rw [piece_snoc s a k hk ha]
  exact h
theorem splitAt_end {s : ByteArray} {c : UInt8} {ps : List (List UInt8)} {a k : Nat} (h : SplitAt s c ps a k) (hk : k = s.size) :
    ps ++ [piece s a s.size] = splitL c s.data.toList := by
  subst hk
  unfold SplitAt at h
  rw [drop_all s _ (Nat.le_refl _)] at h
  exact h

/-- Joined again. -/
def joinL (sep : List UInt8) : List (List UInt8) → List UInt8
  | [] => []
  | [x] => x
  | x :: y :: r => x ++ sep ++ joinL sep (y :: r)
end Go.Proofs.YtklfkdmmclomoaaDoor
