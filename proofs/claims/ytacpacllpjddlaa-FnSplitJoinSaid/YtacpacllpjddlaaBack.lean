/- Plain facts: joining the pieces of a text gives the text back. Nothing here speaks of the program. -/
import Derived.Test.YtacpacllpjddlaaSMath
import Derived.Test.YtacpacllpjddlaaJMath
namespace Go.Proofs.Ytacpacllpjddlaa

theorem join_splitAcc (c : UInt8) (l : List UInt8) : ∀ cur, Lib.join (splitAcc c cur l) [c] = cur ++ l := by
  induction l with
  | nil => intro cur; simp [splitAcc, Lib.join_one]
  | cons x r ih =>
    intro cur
    rw [splitAcc]
    split
    · rename_i h
      subst h
      have h1 := ih []
      cases hs : splitAcc x [] r with
      | nil => exact absurd hs (splitAcc_ne x r [])
      | cons a b =>
        rw [hs] at h1
        rw [Lib.join_cons] at h1 ⊢
        simp [Lib.joinTail] at h1 ⊢
        exact h1
    · rw [ih]; simp
theorem has_splitAcc (c : UInt8) (l : List UInt8) : ∀ cur, has cur c = false → ∀ p ∈ splitAcc c cur l, has p c = false := by
  induction l with
  | nil => intro cur h p hp; simp [splitAcc] at hp; rw [hp]; exact h
  | cons x r ih =>
    intro cur h p hp
    rw [splitAcc] at hp
    split at hp
    · rcases List.mem_cons.1 hp with rfl | hp
      · exact h
      · exact ih [] rfl p hp
    · rename_i hx
      refine ih (cur ++ [x]) ?_ p hp
      rw [has_snoc, h]
      simp; exact fun e => hx e.symm
theorem lists_strOf (xs : List (List UInt8)) : lists (xs.map strOf) = xs := by
  unfold lists; rw [List.map_map]; exact List.map_id _
theorem jn_split (s : ByteArray) (c : UInt8) : strOf (jn ((splitL c s.data.toList).map strOf) c) = s := by
  unfold jn splitL
  rw [lists_strOf, join_splitAcc]
  rfl
theorem good_split (s : ByteArray) (c : UInt8) (hs : s.size ≤ 4000) : JGood ((splitL c s.data.toList).map strOf) c := by
  refine ⟨fun e => ?_, fun x hx => ?_, ?_⟩
  · have h1 := (splitL_len c s.data.toList).1
    have h2 := congrArg List.length e
    simp at h2
    rw [h2] at h1
    simp at h1
  · obtain ⟨p, hp, rfl⟩ := List.mem_map.1 hx
    exact has_splitAcc c s.data.toList [] rfl p hp
  · have h := congrArg ByteArray.size (jn_split s c)
    rw [size_strOf] at h
    omega
end Go.Proofs.Ytacpacllpjddlaa
