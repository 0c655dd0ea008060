/- The program's tables of the words of divisions and lines, read out of the row's condition. -/
import Derived.Test.YtmogabnngphfgaaDoorWords
import Derived.Test.YtmogabnngphfgaaDoorFText
namespace Go.Proofs.YtmogabnngphfgaaDoor
open Go.RowKit

def divT : List ByteArray := divL.drop 1
def lineT : List ByteArray := lineL.drop 1
/-- The variables hold the seven words of divisions, the four words of lines. -/
def DivsLie (w : World) : Prop := ∀ i, i < 7 → w.cell? ⟨0, i, none⟩ = some (.string (divN (i + 1)))
def LinesLie (w : World) : Prop := ∀ i, i < 4 → w.cell? ⟨1, i, none⟩ = some (.string (lineN (i + 1)))
theorem DivsLie.below {w w' : World} (h : DivsLie w) (hb : Below w.heap.size w w') : DivsLie w' := fun i hi => (hb.cell (p := ⟨0, i, none⟩) (World.block_lt_of_cell? w _ (h i hi))).trans (h i hi)
theorem LinesLie.below {w w' : World} (h : LinesLie w) (hb : Below w.heap.size w w') : LinesLie w' := fun i hi => (hb.cell (p := ⟨1, i, none⟩) (World.block_lt_of_cell? w _ (h i hi))).trans (h i hi)
theorem divs_of {rest : List (String × DataW Unit)} {w : World} (h : laidMet Tryd.prog (("loop.example/g00884/impl.divisionWords", Rows.laid_loop_example_g00884_impl_divisionWords) :: rest) w) : DivsLie w := by
  obtain ⟨ps, ⟨g', t', cs, fuel, p, q, hg', ht', hvar, hd, _, _⟩, _⟩ := h
  have hg : Tryd.prog.globalNamed "loop.example/g00884/impl.divisionWords" = some 0 := by kernel_rfl
  have ht : (Tryd.prog.globals[0]?).map (·.type) = some 51 := by kernel_rfl
  obtain rfl := Option.some.inj (hg.symm.trans hg')
  obtain rfl := Option.some.inj (ht.symm.trans ht')
  have hcs : cs.toList = divT.map Value.string := cells_of_words (n := 7) (e := 9) (ss := divT) Tryd.underlying51 Tryd.underlying9 (by kernel_rfl) (by kernel_rfl) hd
  intro i hi
  have h1 := World.var?_cell hg hvar i
  rw [h1, ← Array.getElem?_toList, hcs]
  rcases (show i = 0 ∨ i = 1 ∨ i = 2 ∨ i = 3 ∨ i = 4 ∨ i = 5 ∨ i = 6 by omega) with rfl | rfl | rfl | rfl | rfl | rfl | rfl <;> rfl
theorem lines_of {rest : List (String × DataW Unit)} {w : World} (h : laidMet Tryd.prog (("loop.example/g00884/impl.lineWords", Rows.laid_loop_example_g00884_impl_lineWords) :: rest) w) : LinesLie w := by
  obtain ⟨ps, ⟨g', t', cs, fuel, p, q, hg', ht', hvar, hd, _, _⟩, _⟩ := h
  have hg : Tryd.prog.globalNamed "loop.example/g00884/impl.lineWords" = some 1 := by kernel_rfl
  have ht : (Tryd.prog.globals[1]?).map (·.type) = some 53 := by kernel_rfl
  obtain rfl := Option.some.inj (hg.symm.trans hg')
  obtain rfl := Option.some.inj (ht.symm.trans ht')
  have hcs : cs.toList = lineT.map Value.string := cells_of_words (n := 4) (e := 9) (ss := lineT) Tryd.underlying53 Tryd.underlying9 (by kernel_rfl) (by kernel_rfl) hd
  intro i hi
  have h1 := World.var?_cell hg hvar i
  rw [h1, ← Array.getElem?_toList, hcs]
  rcases (show i = 0 ∨ i = 1 ∨ i = 2 ∨ i = 3 by omega) with rfl | rfl | rfl | rfl <;> rfl
/-- All three tables lie as the program's text lays them. -/
def TabsLie (w : World) : Prop := WordsLie w ∧ DivsLie w ∧ LinesLie w
theorem TabsLie.below {w w' : World} (h : TabsLie w) (hb : Below w.heap.size w w') : TabsLie w' := ⟨h.1.below hb, h.2.1.below hb, h.2.2.below hb⟩
theorem tabs_of {w : World} (h : laidMetH Tryd.prog [("loop.example/g00884/impl.tinctureWords", Rows.laid_loop_example_g00884_impl_tinctureWords), ("loop.example/g00884/impl.divisionWords", Rows.laid_loop_example_g00884_impl_divisionWords), ("loop.example/g00884/impl.lineWords", Rows.laid_loop_example_g00884_impl_lineWords)] w) : TabsLie w := by
  have h0 : laidMet Tryd.prog [("loop.example/g00884/impl.tinctureWords", Rows.laid_loop_example_g00884_impl_tinctureWords), ("loop.example/g00884/impl.divisionWords", Rows.laid_loop_example_g00884_impl_divisionWords), ("loop.example/g00884/impl.lineWords", Rows.laid_loop_example_g00884_impl_lineWords)] w := by
    rw [MakeChecks.laidMetH_plain _ _ _ (by kernel_rfl)] at h
    exact h
  exact ⟨words_of h0, divs_of h0.tail, lines_of h0.tail.tail⟩
end Go.Proofs.YtmogabnngphfgaaDoor
