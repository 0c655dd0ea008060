/- The program's tables of the words of counts and of kinds, read out of the row's condition. -/
import Derived.Test.YtklfkdmmclomoaaDoorG4Tabs
import Derived.Test.YtklfkdmmclomoaaDoorGText
namespace Go.Proofs.YtklfkdmmclomoaaDoor
open Go.RowKit

def KindsLie (w : World) : Prop := ∀ i, i < 8 → w.cell? ⟨3, i, none⟩ = some (.string (kindN i))
theorem KindsLie.below {w w' : World} (h : KindsLie w) (hb : Below w.heap.size w w') : KindsLie w' := fun i hi => (hb.cell (p := ⟨3, i, none⟩) (World.block_lt_of_cell? w _ (h i hi))).trans (h i hi)
theorem kinds_of {rest : List (String × DataW Unit)} {w : World} (h : laidMet Tryd.prog (("loop.example/g00884/impl.kindWords", Rows.laid_loop_example_g00884_impl_kindWords) :: rest) w) : KindsLie w := by
  obtain ⟨ps, ⟨g', t', cs, fuel, p, q, hg', ht', hvar, hd, _, _⟩, _⟩ := h
  have hg : Tryd.prog.globalNamed "loop.example/g00884/impl.kindWords" = some 3 := by kernel_rfl
  have ht : (Tryd.prog.globals[3]?).map (·.type) = some 82 := by kernel_rfl
  obtain rfl := Option.some.inj (hg.symm.trans hg')
  obtain rfl := Option.some.inj (ht.symm.trans ht')
  have hcs : cs.toList = kindL.map Value.string := cells_of_words (n := 8) (e := 9) (ss := kindL) Tryd.underlying82 Tryd.underlying9 (by kernel_rfl) (by kernel_rfl) hd
  intro i hi
  rw [World.var?_cell hg hvar i, ← Array.getElem?_toList, hcs]
  rcases (show i = 0 ∨ i = 1 ∨ i = 2 ∨ i = 3 ∨ i = 4 ∨ i = 5 ∨ i = 6 ∨ i = 7 by omega) with rfl | rfl | rfl | rfl | rfl | rfl | rfl | rfl <;> rfl
def CountsLie (w : World) : Prop := ∀ i, i < 6 → w.cell? ⟨4, i, none⟩ = some (.string (countN i))
theorem CountsLie.below {w w' : World} (h : CountsLie w) (hb : Below w.heap.size w w') : CountsLie w' := fun i hi => (hb.cell (p := ⟨4, i, none⟩) (World.block_lt_of_cell? w _ (h i hi))).trans (h i hi)
theorem counts_of {rest : List (String × DataW Unit)} {w : World} (h : laidMet Tryd.prog (("loop.example/g00884/impl.countWords", Rows.laid_loop_example_g00884_impl_countWords) :: rest) w) : CountsLie w := by
  obtain ⟨ps, ⟨g', t', cs, fuel, p, q, hg', ht', hvar, hd, _, _⟩, _⟩ := h
  have hg : Tryd.prog.globalNamed "loop.example/g00884/impl.countWords" = some 4 := by kernel_rfl
  have ht : (Tryd.prog.globals[4]?).map (·.type) = some 87 := by kernel_rfl
  obtain rfl := Option.some.inj (hg.symm.trans hg')
  obtain rfl := Option.some.inj (ht.symm.trans ht')
  have hcs : cs.toList = countL.map Value.string := cells_of_words (n := 6) (e := 9) (ss := countL) Tryd.underlying87 Tryd.underlying9 (by kernel_rfl) (by kernel_rfl) hd
  intro i hi
  rw [World.var?_cell hg hvar i, ← Array.getElem?_toList, hcs]
  rcases (show i = 0 ∨ i = 1 ∨ i = 2 ∨ i = 3 ∨ i = 4 ∨ i = 5 by omega) with rfl | rfl | rfl | rfl | rfl | rfl <;> rfl
theorem kindsH {w : World} (h : laidMetH Tryd.prog [("loop.example/g00884/impl.kindWords", Rows.laid_loop_example_g00884_impl_kindWords)] w) : KindsLie w := by
  rw [MakeChecks.laidMetH_plain _ _ _ (by kernel_rfl)] at h
  exact kinds_of h
/-- The tables that the texts of groups are read from. -/
def GTabs (w : World) : Prop := WordsLie w ∧ CountsLie w ∧ KindsLie w ∧ AttsLie w
theorem GTabs.below {w w' : World} (h : GTabs w) (hb : Below w.heap.size w w') : GTabs w' := ⟨h.1.below hb, h.2.1.below hb, h.2.2.1.below hb, h.2.2.2.below hb⟩
theorem gtabsH {w : World} (h : laidMetH Tryd.prog [("loop.example/g00884/impl.tinctureWords", Rows.laid_loop_example_g00884_impl_tinctureWords), ("loop.example/g00884/impl.countWords", Rows.laid_loop_example_g00884_impl_countWords), ("loop.example/g00884/impl.kindWords", Rows.laid_loop_example_g00884_impl_kindWords), ("loop.example/g00884/impl.attitudeWords", Rows.laid_loop_example_g00884_impl_attitudeWords)] w) : GTabs w := by
  rw [MakeChecks.laidMetH_plain _ _ _ (by kernel_rfl)] at h
  exact ⟨words_of h, counts_of h.tail, kinds_of h.tail.tail, atts_of h.tail.tail.tail⟩
theorem gtabs5H {w : World} (h : laidMetH Tryd.prog [("loop.example/g00884/impl.tinctureWords", Rows.laid_loop_example_g00884_impl_tinctureWords), ("loop.example/g00884/impl.countWords", Rows.laid_loop_example_g00884_impl_countWords), ("loop.example/g00884/impl.kindWords", Rows.laid_loop_example_g00884_impl_kindWords), ("loop.example/g00884/impl.attitudeWords", Rows.laid_loop_example_g00884_impl_attitudeWords), ("loop.example/g00884/impl.rowsOfCharges", Rows.laid_loop_example_g00884_impl_rowsOfCharges)] w) : GTabs w ∧ RowsLie w := by
  rw [MakeChecks.laidMetH_plain _ _ _ (by kernel_rfl)] at h
  exact ⟨⟨words_of h, counts_of h.tail, kinds_of h.tail.tail, atts_of h.tail.tail.tail⟩, rows_of h.tail.tail.tail.tail⟩
end Go.Proofs.YtklfkdmmclomoaaDoor
