/- What a walk is told of a slice of strings that came in. -/
import Derived.Test.YtacpacllpjddlaaStrs
namespace Go.Proofs.Ytacpacllpjddlaa
open Go.RowKit
theorem cell_lt {w : World} {b o : Nat} {v : Value} (h : w.cell? ⟨b, o, none⟩ = some v) : b < w.heap.size := by
  rcases Nat.lt_or_ge b w.heap.size with h1 | h1
  · exact h1
  · unfold World.cell? at h
    rw [Array.getElem?_eq_none h1] at h
    simp at h
/-- It is nil, or it leads to a row of 'cap' strings, of which the first 'len' are its elements. -/
def IsStrs (w : World) (a : Option Addr) (len cap : Nat) (ss : List ByteArray) : Prop :=
  (a = none ∧ len = 0 ∧ cap = 0 ∧ ss = []) ∨
  ∃ x, a = some x ∧ len ≤ cap ∧ cap ≤ maxLen ∧ ss.length = cap ∧ (∀ i, i < ss.length → w.cell? (x.add i) = some (.string (ss.getD i ByteArray.empty))) ∧ ∀ s ∈ ss, s.size ≤ maxLen
theorem IsStrs.rd {w : World} {a : Option Addr} {len cap : Nat} {ss : List ByteArray} (h : IsStrs w a len cap ss) : RdS w a len (ss.take len) ∧ (∀ s ∈ ss.take len, s.size ≤ maxLen) ∧ len ≤ maxLen := by
  rcases h with ⟨rfl, rfl, rfl, rfl⟩ | ⟨⟨b, o, spot⟩, rfl, hl, hm, hz, hc, hs⟩
  · exact ⟨⟨rfl, fun h => by omega⟩, by simp, by unfold maxLen; omega⟩
  · refine ⟨⟨by simp; omega, fun hn => ?_⟩, fun s h => hs s (List.mem_of_mem_take h), by omega⟩
    have h0 := hc 0 (by omega)
    have hspot : spot = none := by simpa [Addr.add] using World.cell?_spot h0
    subst hspot
    refine ⟨b, o, rfl, ?_, fun k hk => ?_⟩
    · simp only [Addr.add] at h0
      exact cell_lt h0
    · have h1 := hc k (by omega)
      have e : (⟨b, o, none⟩ : Addr).add k = ⟨b, o + k, none⟩ := by unfold Addr.add; split <;> simp_all
      rw [e] at h1
      rw [h1]
      congr 2
      simp [List.getD, hk]
end Go.Proofs.Ytacpacllpjddlaa
