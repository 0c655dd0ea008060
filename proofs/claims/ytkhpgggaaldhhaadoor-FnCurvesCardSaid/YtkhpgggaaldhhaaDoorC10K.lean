/- The program's table of offsets, read out of the row's condition. -/
import Derived.Test.YtkhpgggaaldhhaaDoorRows
import Derived.Test.YtkhpgggaaldhhaaDoorC10M
import Derived.LaidMore
import Derived.Stop.LaidErr
import Derived.MakeChecks
import Derived.Lib.LaidTab
import Derived.Below
import Derived.Test.YtkhpgggaaldhhaaDoorIntRows
import Derived.OpenShut
import Derived.ChangeSlices
namespace Go.Proofs.YtkhpgggaaldhhaaDoor
open Go.RowKit

theorem addr_add (b o i : Nat) : (⟨b, o, none⟩ : Addr).add i = ⟨b, o + i, none⟩ := by unfold Addr.add; split <;> simp_all
theorem ints_of_trod {H : Type} {enc : TypeId × Value → H} {P : Program} {w : World} {base : Nat} {held : Bool} {fuel : Nat} {t e : TypeId} {cs : List Value} {zs : List Int} {p : List MemPlace}
    (ht : P.underlying t = some (.slice e)) (he : P.underlying e = some (.int .i64)) (hc : P.cellsOf e = 1)
    (h : DataW.trod enc P w base (fun _ => true) held fuel t cs = some (.slice (zs.map fun z => .lit (.int .i64 z)) [], p)) :
    ∃ a, cs = [.slice a zs.length zs.length] ∧ RdI w a zs.length zs := by
  rcases ChangeShapes.open_ints ht he hc h with ⟨_, h0⟩ | ⟨⟨b, o, spot⟩, len, cap, ys, rfl, _, hl, _, hm, hx, hS, _⟩
  · cases h0
  · simp only [if_true] at hm
    simp only [Prod.mk.injEq, DataW.slice.injEq] at hx
    obtain ⟨⟨h1, h2⟩, _⟩ := hx
    have hlen : zs.length = min len ys.length := by have := congrArg List.length h1; simpa [ChangeShapes.lits] using this
    have hrest : ys.length - len = 0 := by have := congrArg List.length h2; simpa [ChangeShapes.lits, eq_comm] using this
    have hy : zs = ys := by
      have h3 : ys.take len = ys := List.take_of_length_le (by omega)
      rw [h3] at h1
      have hinj : ∀ x y : Int, (DataW.lit (.int .i64 x) : DataW H) = .lit (.int .i64 y) → x = y := by intro x y h; cases h; rfl
      apply List.ext_getElem?
      intro i
      have h4 := congrArg (·[i]?) h1
      simp only [ChangeShapes.lits, List.getElem?_map] at h4
      cases hz : zs[i]? <;> cases hy : ys[i]? <;> simp_all
    subst hy
    have hcl : cap = len := by omega
    have hzl : zs.length = len := by omega
    refine ⟨some ⟨b, o, spot⟩, by rw [hcl, hzl], rfl, fun hn => ?_⟩
    have h0 := hS 0 (by omega)
    have hspot : spot = none := by simpa [Addr.add] using World.cell?_spot h0
    subst hspot
    have hall : ∀ i, i < zs.length → w.cell? ⟨b, o + i, none⟩ = some (.int .i64 (zs.getD i 0)) := by
      intro i hi
      have h3 := hS i hi
      have e1 := addr_add b o i
      rwa [e1] at h3
    exact ⟨b, o, rfl, World.block_lt_of_cell? w _ (hall 0 hn), hall⟩
/-- The variable holds, for each of the five lines, the slice of its offsets. -/
def OffsLie (w : World) : Prop := ∀ j : Nat, j < 5 → ∃ a, w.cell? ⟨0, j, none⟩ = some (.slice a (offL (j : Int)).length (offL (j : Int)).length) ∧ RdI w a (offL (j : Int)).length (offL (j : Int))
theorem OffsLie.below {w w' : World} (h : OffsLie w) (hb : Below w.heap.size w w') : OffsLie w' := fun j hj => by
  obtain ⟨a, h1, h2⟩ := h j hj
  exact ⟨a, (hb.cell (p := ⟨0, j, none⟩) (World.block_lt_of_cell? w _ h1)).trans h1, h2.below hb⟩
theorem OffsLie.drewN {w : World} (h : OffsLie w) (m : Nat) : OffsLie (w.drewN m) := fun j hj => by
  obtain ⟨a, h1, h2⟩ := h j hj
  exact ⟨a, h1, h2.drewN m⟩
theorem offs_of {rest : List (String × DataW Unit)} {w : World} (h : laidMet Tryd.prog (("loop.example/g00884/impl.lineOffsets", Rows.laid_loop_example_g00884_impl_lineOffsets) :: rest) w) : OffsLie w := by
  obtain ⟨ps, ⟨g', t', cs, fuel, p, q, hg', ht', hvar, hd, _, _⟩, _⟩ := h
  have hg : Tryd.prog.globalNamed "loop.example/g00884/impl.lineOffsets" = some 0 := by kernel_rfl
  have ht : (Tryd.prog.globals[0]?).map (·.type) = some 68 := by kernel_rfl
  obtain rfl := Option.some.inj (hg.symm.trans hg')
  obtain rfl := Option.some.inj (ht.symm.trans ht')
  have hc1 : Tryd.prog.cellsOf 33 = 1 := by kernel_rfl
  obtain ⟨xs, m, _, hx, hcl, hxl, hel⟩ := DataW.trod_array (n := 5) (e := 33) Tryd.underlying68 hd
  rw [hc1] at hel
  have hxs : xs.map (·.1) = [0, 1, 2, 3, 4].map (fun l : Int => .slice ((offL l).map fun z => .lit (.int .i64 z)) []) := by
    have := congrArg Prod.fst hx
    simp only [Rows.laid_loop_example_g00884_impl_lineOffsets, DataW.agg.injEq] at this
    simp only [List.map_cons, List.map_nil, offL_0, offL_1, offL_2, offL_3, offL_4]
    exact this.symm
  intro j hj
  have h1 : j < xs.length := by omega
  have h2 := hel j hj
  rw [Nat.mul_one, List.getElem?_eq_getElem h1] at h2
  have h3 : (xs.map (·.1))[j]? = some xs[j].1 := by simp [h1]
  rw [hxs] at h3
  have hyes : xs[j].1 = .slice ((offL (j : Int)).map fun z => .lit (.int .i64 z)) [] → ∃ a, w.cell? ⟨0, j, none⟩ = some (.slice a (offL (j : Int)).length (offL (j : Int)).length) ∧ RdI w a (offL (j : Int)).length (offL (j : Int)) := by
    intro hd2
    obtain ⟨a, h4, h5⟩ := ints_of_trod (p := xs[j].2) Tryd.underlying33 Tryd.underlying3 (by kernel_rfl) (h2.trans (by rw [← hd2]))
    refine ⟨a, ?_, h5⟩
    rw [World.var?_cell hg hvar j, ← Array.getElem?_toList]
    have := congrArg (·[0]?) h4
    simpa [List.getElem?_take, List.getElem?_drop] using this
  rcases (show j = 0 ∨ j = 1 ∨ j = 2 ∨ j = 3 ∨ j = 4 by omega) with rfl | rfl | rfl | rfl | rfl
  all_goals exact hyes (Option.some.inj h3).symm
theorem offsH {w : World} (h : laidMetH Tryd.prog [("loop.example/g00884/impl.lineOffsets", Rows.laid_loop_example_g00884_impl_lineOffsets)] w) : OffsLie w := by
  rw [MakeChecks.laidMetH_plain _ _ _ (by kernel_rfl)] at h
  exact offs_of h
end Go.Proofs.YtkhpgggaaldhhaaDoor
