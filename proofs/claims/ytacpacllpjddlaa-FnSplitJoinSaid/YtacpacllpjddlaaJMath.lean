/- Plain facts on joining texts. Nothing here speaks of the program. -/
import Derived.Test.YtacpacllpjddlaaStands
import Derived.Lib.Join
namespace Go.Proofs.Ytacpacllpjddlaa

def lists (X : List ByteArray) : List (List UInt8) := X.map (·.data.toList)
/-- The texts joined with the byte c. -/
def jn (X : List ByteArray) (c : UInt8) : List UInt8 := Lib.join (lists X) [c]
theorem jn_nil (c : UInt8) : jn [] c = [] := rfl
theorem jn_one (x : ByteArray) (c : UInt8) : jn [x] c = x.data.toList := Lib.join_one _ _
theorem jn_take_one {X : List ByteArray} {x : ByteArray} (h : X[0]? = some x) (c : UInt8) : jn (X.take 1) c = x.data.toList := by
  cases X with
  | nil => simp at h
  | cons y r => simp at h; subst h; rw [List.take_succ_cons, List.take_zero]; exact jn_one _ _
theorem jn_take_succ {X : List ByteArray} {x : ByteArray} {k : Nat} (hk : 1 ≤ k) (h : X[k]? = some x) (c : UInt8) : jn (X.take (k + 1)) c = jn (X.take k) c ++ [c] ++ x.data.toList := by
  cases X with
  | nil => simp at h
  | cons y r =>
    obtain ⟨m, rfl⟩ : ∃ m, k = m + 1 := ⟨k - 1, by omega⟩
    have hr : r[m]? = some x := by simpa using h
    unfold jn lists
    rw [List.take_succ_cons, List.take_succ_cons, List.map_cons, List.map_cons, Lib.join_cons, Lib.join_cons, List.map_take, List.map_take]
    rw [Lib.joinTail_take_succ [c] (r.map (·.data.toList)) m x.data.toList (by rw [List.getElem?_map, hr]; rfl)]
    simp
/-- The number of bytes of the texts together. -/
def blen (X : List ByteArray) : Nat := Lib.lens (lists X)
theorem blen_nil : blen [] = 0 := rfl
theorem blen_take_succ {X : List ByteArray} {x : ByteArray} {k : Nat} (h : X[k]? = some x) : blen (X.take (k + 1)) = blen (X.take k) + x.size := by
  unfold blen lists Lib.lens
  rw [List.take_add_one, h]
  simp [List.map_append, List.sum_append]
theorem blen_take_le (X : List ByteArray) (k : Nat) : blen (X.take k) ≤ blen X := by
  unfold blen lists Lib.lens
  conv => rhs; rw [← List.take_append_drop k X]
  rw [List.map_append, List.map_append, List.sum_append]
  omega
theorem jn_length {X : List ByteArray} (h : X ≠ []) (c : UInt8) : (jn X c).length = X.length - 1 + blen X := by
  cases X with
  | nil => exact absurd rfl h
  | cons x r =>
    unfold jn lists blen
    rw [List.map_cons, Lib.join_length]
    simp [lists]
theorem jn_take_le {X : List ByteArray} {k : Nat} (hk : 1 ≤ k) (hk2 : k ≤ X.length) (c : UInt8) : (jn (X.take k) c).length ≤ (jn X c).length := by
  have h1 : X.take k ≠ [] := by
    intro e
    have := congrArg List.length e
    rw [List.length_take, List.length_nil] at this; omega
  have h2 : X ≠ [] := by rintro rfl; simp at hk2; omega
  rw [jn_length h1, jn_length h2, List.length_take]
  have := blen_take_le X k
  omega

def JGood (X : List ByteArray) (c : UInt8) : Prop := X ≠ [] ∧ (∀ x ∈ X, has x.data.toList c = false) ∧ (jn X c).length ≤ 4000
/-- Both answers. -/
def JP (X : List ByteArray) (c : UInt8) (e : Ending) : Prop :=
  (JGood X c ∧ e = .returned (.tuple #[.string (strOf (jn X c)), .bool true])) ∨ (¬ JGood X c ∧ e = .returned (.tuple #[.string ByteArray.empty, .bool false]))
theorem jp_yes {X : List ByteArray} {c : UInt8} {e : Ending} (h : JP X c e) (g : JGood X c) : e = .returned (.tuple #[.string (strOf (jn X c)), .bool true]) := by
  rcases h with ⟨_, h⟩ | ⟨h, _⟩
  · exact h
  · exact absurd g h
theorem jp_no {X : List ByteArray} {c : UInt8} {e : Ending} (h : JP X c e) (g : ¬ JGood X c) : e = .returned (.tuple #[.string ByteArray.empty, .bool false]) := by
  rcases h with ⟨h, _⟩ | ⟨_, h⟩
  · exact absurd h g
  · exact h
end Go.Proofs.Ytacpacllpjddlaa
