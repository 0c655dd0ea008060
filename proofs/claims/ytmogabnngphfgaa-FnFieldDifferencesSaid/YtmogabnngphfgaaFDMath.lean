/- What FnFieldDifferences says of the number of differences: the same both ways, and none just where the fields are one. -/
import Derived.Test.YtmogabnngphfgaaFSame
namespace Go.Proofs.Ytmogabnngphfgaa

theorem iteq_comm {α : Type} [DecidableEq α] (a b : α) : (if a = b then (0 : Int) else 1) = if b = a then 0 else 1 := by
  by_cases h : a = b
  · rw [if_pos h, if_pos h.symm]
  · rw [if_neg h, if_neg (fun e => h e.symm)]
theorem fdif_comm (d l f s d' l' f' s' : Int) : fdif d l f s d' l' f' s' = fdif d' l' f' s' d l f s := by
  unfold fdif
  rw [iteq_comm d d', iteq_comm l l', iteq_comm (tincL d f s) (tincL d' f' s')]
theorem fdif_zero {d l f s d' l' f' s' : Int} (h : FOk d l f s) (h' : FOk d' l' f' s') : fdif d l f s d' l' f' s' = 0 ↔ (d = d' ∧ l = l' ∧ f = f' ∧ s = s') := by
  obtain ⟨_, _, _, h4⟩ := h
  obtain ⟨_, _, _, h4'⟩ := h'
  constructor
  · intro e
    unfold fdif at e
    have a : d = d' := by split at e; assumption; (repeat' split at e) <;> omega
    have b : l = l' := by rw [if_pos a] at e; split at e; assumption; split at e <;> omega
    have c : tincL d f s = tincL d' f' s' := by rw [if_pos a, if_pos b] at e; split at e; assumption; omega
    subst a
    unfold tincL at c
    by_cases h0 : d = 0
    · rw [if_pos h0, if_pos h0] at c
      injection c with c1 _
      rcases h4 with ⟨_, _, hs⟩ | ⟨hd, _⟩
      · rcases h4' with ⟨_, _, hs'⟩ | ⟨hd, _⟩
        · exact ⟨rfl, b, c1, by omega⟩
        · exact absurd h0 hd
      · exact absurd h0 hd
    · rw [if_neg h0, if_neg h0] at c
      injection c with c1 c2
      injection c2 with c3 _
      exact ⟨rfl, b, c1, c3⟩
  · rintro ⟨rfl, rfl, rfl, rfl⟩
    unfold fdif
    simp
end Go.Proofs.Ytmogabnngphfgaa
