/- An argument that is a struct of numbers, nested or not: its cells are numbers. -/
import Derived.Test.YthapidnjioindaaProg
import Derived.ChangeArms
import Derived.WideShapes
import Derived.WalkKit
namespace Go.Proofs.Ythapidnjioindaa

/-- Cell i of a value of this type is an int. -/
def leafB (P : Program) : Nat → TypeId → Nat → Bool
  | 0, _, _ => false
  | k + 1, t, i => match P.underlying t with
    | some (.int .i64) => i == 0
    | some (.struct fs) => (List.range fs.size).any fun j => match fs[j]? with
      | some f => decide (f.offset ≤ i) && decide (i < f.offset + P.cellsOf f.type) && leafB P k f.type (i - f.offset)
      | none => false
    | _ => false
theorem leaf_int {H : Type} {enc : TypeId × Value → H} {P : Program} {w : World} {base : Nat} {sp : Nat → Bool} {held : Bool} : ∀ (k : Nat) {t : TypeId} {i fuel : Nat} {cs : List Value} {x : DataW H × List MemPlace},
    leafB P k t i = true → DataW.trod enc P w base sp held fuel t cs = some x → ∃ z, cs[i]? = some (.int .i64 z) ∧ (Lit.int .i64 z).wf = true := by
  intro k
  induction k with
  | zero => intro t i fuel cs x h _; cases h
  | succ k ih =>
    intro t i fuel cs x h hd
    unfold leafB at h
    split at h
    · next ht =>
      obtain ⟨z, hc, _, hw⟩ := DataW.trod_int ht hd
      have hi : i = 0 := by simpa using h
      subst hi
      exact ⟨z, by rw [hc]; rfl, hw⟩
    · next fs ht =>
      obtain ⟨xs, n, _, _, _, hl, hg⟩ := DataW.trod_struct ht hd
      obtain ⟨j, hj, hb⟩ := List.any_eq_true.1 h
      rw [List.mem_range] at hj
      have hf : fs[j]? = some fs[j] := Array.getElem?_eq_getElem hj
      rw [hf] at hb
      simp only [Bool.and_eq_true, decide_eq_true_eq] at hb
      obtain ⟨⟨h1, h2⟩, h3⟩ := hb
      have h4 := hg j fs[j] hf
      rw [List.getElem?_eq_getElem (show j < xs.length by omega)] at h4
      obtain ⟨z, hz, hw⟩ := ih h3 h4
      refine ⟨z, ?_, hw⟩
      rw [List.getElem?_take_of_lt (by omega), List.getElem?_drop] at hz
      rw [← hz]
      congr 1
      omega
    · cases h
def intCell : Value → Int
  | .int _ z => z
  | _ => 0
theorem flat_ints {H : Type} {enc : TypeId × Value → H} {P : Program} {w : World} {base fuel : Nat} {sp : Nat → Bool} {held : Bool} {t : TypeId} {n : Nat} {cs : Array Value} {x : DataW H × List MemPlace} (k : Nat)
    (hn : cs.size = n) (hl : (List.range n).all (leafB P k t) = true) (hd : DataW.trod enc P w base sp held fuel t cs.toList = some x) :
    ∃ zs : List Int, zs.length = n ∧ cs = (zs.map (Value.int .i64)).toArray ∧ ∀ z ∈ zs, (Lit.int .i64 z).wf = true := by
  have H : ∀ i, i < n → ∃ z, cs.toList[i]? = some (.int .i64 z) ∧ (Lit.int .i64 z).wf = true := fun i hi => leaf_int k (List.all_eq_true.1 hl i (List.mem_range.2 hi)) hd
  refine ⟨cs.toList.map intCell, by simpa using hn, ?_, ?_⟩
  · apply Array.toList_inj.1
    apply List.ext_getElem?
    intro i
    simp only [List.map_map]
    rw [List.getElem?_map]
    by_cases hi : i < n
    · obtain ⟨z, hz, _⟩ := H i hi
      rw [hz]; rfl
    · rw [List.getElem?_eq_none (by simpa using (by omega : cs.size ≤ i))]; rfl
  · intro z hz
    obtain ⟨c, hc, rfl⟩ := List.mem_map.1 hz
    obtain ⟨i, hi⟩ := List.mem_iff_getElem?.1 hc
    have hlt : i < n := by
      rcases Nat.lt_or_ge i n with h | h
      · exact h
      · rw [List.getElem?_eq_none (by simpa using (by omega : cs.size ≤ i))] at hi; cases hi
    obtain ⟨z', hz', hw⟩ := H i hlt
    rw [hi] at hz'
    cases hz'
    exact hw
/-- A parameter that is a struct of n numbers. -/
theorem flat_open {H : Type} {enc : TypeId × Value → H} {P : Program} {w : World} {base b0 : Nat} {r : Reach} {sp : Nat → Bool} {held : Bool} {t : TypeId} {fs : Array Field} {n : Nat} {v : Value} {d : DataW H} {p : List MemPlace} (hs : P.underlying t = some (.struct fs)) (hC : P.cellsOf t = n)
    (hl : (List.range n).all (leafB P 8 t) = true) (hv : Value.okWide P w r b0 t v) (h : DataW.Trod enc P w base sp held t v d p) :
    ∃ zs : List Int, zs.length = n ∧ v = .agg (zs.map (Value.int .i64)).toArray ∧ ∀ z ∈ zs, (Lit.int .i64 z).wf = true := by
  obtain ⟨cs, rfl, hsz⟩ := Go.WideShapes.okWide_struct hs hv
  obtain ⟨fuel, hf⟩ := h
  simp only [Value.cells] at hf
  obtain ⟨zs, h1, h2, h3⟩ := flat_ints 8 (hsz.trans hC) hl hf
  exact ⟨zs, h1, by rw [h2], h3⟩
end Go.Proofs.Ythapidnjioindaa
