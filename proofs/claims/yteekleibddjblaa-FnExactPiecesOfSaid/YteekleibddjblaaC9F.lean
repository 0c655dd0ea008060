/- Contract: PiecesOf of both sides answers one number. -/
import Derived.Test.YteekleibddjblaaC9J
import Derived.Test.YteekleibddjblaaC9U
namespace Go.Proofs.Yteekleibddjblaa
open Go.RowKit

theorem pieces_both (X : List Int) (n : Nat) (_hX : X.length = n) (hwf : WfI X) (hn : n ≤ 1048577) :
    ∃ (m : Int) (r : Bool), (∀ W a c, RdI W a n X → Calls Try.prog 25 #[.agg #[.slice a n c]] W fun e w' => e = .returned (.tuple #[.int .i64 m, .bool r]) ∧ Below W.heap.size W w') ∧ (∀ W a c, RdI W a n X → Calls Try.prog 27 #[.agg #[.slice a n c]] W fun e w' => e = .returned (.tuple #[.int .i64 m, .bool r]) ∧ Below W.heap.size W w') := by
  cases hg : goodR X
  · refine ⟨0, false, fun W a c h => (pieces_spec X n a c W h hn).mono ?_, fun W a c h => (pieces_impl X n a c W h hwf hn).mono ?_⟩
    · rintro e w' ⟨m, rfl, hm, hb⟩
      rw [hg] at hm ⊢
      simp at hm
      subst hm
      exact ⟨rfl, hb⟩
    · rintro e w' ⟨m, rfl, hm, hb⟩
      rw [hg] at hm ⊢
      simp at hm
      subst hm
      exact ⟨rfl, hb⟩
  · rcases Classical.em (∃ m T, PieceP (cellR X) 480 T m) with ⟨m, T, hp⟩ | hno
    · refine ⟨m, true, fun W a c h => (pieces_spec X n a c W h hn).mono ?_, fun W a c h => (pieces_impl X n a c W h hwf hn).mono ?_⟩
      · rintro e w' ⟨m', rfl, hm, hb⟩
        rw [hg, if_pos rfl] at hm
        obtain ⟨T', hp'⟩ := hm
        obtain ⟨_, rfl⟩ := PieceP.det hp hp'
        rw [hg]
        exact ⟨rfl, hb⟩
      · rintro e w' ⟨m', rfl, hm, hb⟩
        rw [hg, if_pos rfl] at hm
        obtain ⟨T', hp'⟩ := hm
        obtain ⟨_, rfl⟩ := PieceP.det hp hp'
        rw [hg]
        exact ⟨rfl, hb⟩
    · refine ⟨0, true, fun W a c h => (pieces_spec X n a c W h hn).mono ?_, fun W a c h => (pieces_impl X n a c W h hwf hn).mono ?_⟩
      · rintro e w' ⟨m', rfl, hm, hb⟩
        rw [hg, if_pos rfl] at hm
        obtain ⟨T', hp'⟩ := hm
        exact absurd ⟨m', T', hp'⟩ hno
      · rintro e w' ⟨m', rfl, hm, hb⟩
        rw [hg, if_pos rfl] at hm
        obtain ⟨T', hp'⟩ := hm
        exact absurd ⟨m', T', hp'⟩ hno
end Go.Proofs.Yteekleibddjblaa
