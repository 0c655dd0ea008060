/- The program's tables of groups (words of counts, of kinds, of attitudes; rows of charges), read out of the row's condition. -/
import Derived.Test.YtpcghkciibbmgaaDoorRows
import Derived.LaidMore
import Derived.Stop.LaidErr
import Derived.MakeChecks
import Derived.Lib.LaidTab
import Derived.Below
import Derived.Test.YtpcghkciibbmgaaDoorAttsL
import Derived.Test.YtpcghkciibbmgaaDoorRdS
import Derived.Test.YtpcghkciibbmgaaDoorGroups
import Derived.OpenShut
import Derived.Deep.Strs
import Derived.ChangeSlices
namespace Go.Proofs.YtpcghkciibbmgaaDoor
open Go.RowKit

theorem addr_add (b o i : Nat) : (⟨b, o, none⟩ : Addr).add i = ⟨b, o + i, none⟩ := by unfold Addr.add; split <;> simp_all
theorem strs_of_trod {H : Type} {enc : TypeId × Value → H} {P : Program} {w : World} {base : Nat} {held : Bool} {fuel : Nat} {t e : TypeId} {cs : List Value} {ss : List ByteArray} {p : List MemPlace}
    (ht : P.underlying t = some (.slice e)) (he : P.underlying e = some .string) (hc : P.cellsOf e = 1)
    (h : DataW.trod enc P w base (fun _ => true) held fuel t cs = some (.slice (ss.map fun s => .lit (.string s.data.toList)) [], p)) :
    ∃ a, cs = [.slice a ss.length ss.length] ∧ RdS w a ss.length ss := by
  rcases Deep.open_strs ht he hc h with ⟨_, h0⟩ | ⟨⟨b, o, spot⟩, len, cap, m, Sx, rfl, _, hl, _, hm, hx, hS⟩
  · cases h0
  · simp only [if_true] at hm
    simp only [Prod.mk.injEq, DataW.slice.injEq] at hx
    obtain ⟨⟨h1, h2⟩, _⟩ := hx
    have hlen : ss.length = len := by have := congrArg List.length h1; simpa using this
    have hrest : cap = len := by have := congrArg List.length h2; simp at this; omega
    subst hm
    refine ⟨some ⟨b, o, spot⟩, by rw [hrest, hlen], rfl, fun hn => ?_⟩
    have h0 := (hS 0 (by omega)).1
    have hspot : spot = none := by simpa [Addr.add] using World.cell?_spot h0
    subst hspot
    have hall : ∀ i, i < ss.length → w.cell? ⟨b, o + i, none⟩ = some (.string (ss.getD i ByteArray.empty)) := by
      intro i hi
      have h3 := (hS i (by omega)).1
      have e1 := addr_add b o i
      rw [e1] at h3
      rw [h3]
      have h4 := congrArg (·[i]?) h1
      simp only [List.getElem?_map, List.getElem?_range (show i < len by omega), List.getElem?_eq_getElem hi, Option.map_some, Option.some.injEq, DataW.lit.injEq, Lit.string.injEq] at h4
      have h5 : ss[i] = Sx i := ByteArray.ext (Array.toList_inj.1 h4)
      simp [List.getD, hi, h5]
    refine ⟨b, o, rfl, ?_, hall⟩
    exact World.block_lt_of_cell? w _ (hall 0 hn)
theorem ints_of_trod {H : Type} {enc : TypeId × Value → H} {P : Program} {w : World} {base : Nat} {held : Bool} {fuel : Nat} {t e : TypeId} {cs : List Value} {zs : List Int} {p : List MemPlace}
    (ht : P.underlying t = some (.slice e)) (he : P.underlying e = some (.int .i64)) (hc : P.cellsOf e = 1)
    (h : DataW.trod enc P w base (fun _ => true) held fuel t cs = some (.slice (zs.map fun z => .lit (.int .i64 z)) [], p)) :
    ∃ a, cs = [.slice a zs.length zs.length] ∧ RdI w a zs.length zs := by
  rcases ChangeShapes.open_ints ht he hc h with ⟨_, h0⟩ | ⟨⟨b, o, spot⟩, len, cap, ys, rfl, _, hl, _, hm, hx, hS, _⟩
  · cases h0
  · simp only [if_true] at hm
    simp only [Prod.mk.injEq, DataW.slice.injEq] at hx
    obtain ⟨⟨h1, h2⟩, _⟩ := hx
    have hlen : zs.length = min len ys.length := by have := congrArg List.length h1; simpa [ChangeShapes.lits] using this
    have hrest : ys.length - len = 0 := by have := congrArg List.length h2; simpa [ChangeShapes.lits, eq_comm] using this
    have hy : zs = ys := by
      have h3 : ys.take len = ys := List.take_of_length_le (by omega)
      rw [h3] at h1
      have hinj : ∀ x y : Int, (DataW.lit (.int .i64 x) : DataW H) = .lit (.int .i64 y) → x = y := by intro x y h; cases h; rfl
      apply List.ext_getElem?
      intro i
      have h4 := congrArg (·[i]?) h1
      simp only [ChangeShapes.lits, List.getElem?_map] at h4
      cases hz : zs[i]? <;> cases hy : ys[i]? <;> simp_all
    subst hy
    have hcl : cap = len := by omega
    have hzl : zs.length = len := by omega
    refine ⟨some ⟨b, o, spot⟩, by rw [hcl, hzl], rfl, fun hn => ?_⟩
    have h0 := hS 0 (by omega)
    have hspot : spot = none := by simpa [Addr.add] using World.cell?_spot h0
    subst hspot
    have hall : ∀ i, i < zs.length → w.cell? ⟨b, o + i, none⟩ = some (.int .i64 (zs.getD i 0)) := by
      intro i hi
      have h3 := hS i hi
      have e1 := addr_add b o i
      rwa [e1] at h3
    exact ⟨b, o, rfl, World.block_lt_of_cell? w _ (hall 0 hn), hall⟩
theorem nil_of_trod {H : Type} {enc : TypeId × Value → H} {P : Program} {w : World} {base : Nat} {sp : Nat → Bool} {held : Bool} {fuel : Nat} {t e : TypeId} {cs : List Value} {p : List MemPlace}
    (ht : P.underlying t = some (.slice e)) (h : DataW.trod enc P w base sp held fuel t cs = some (.nil, p)) : cs = [.slice none 0 0] := by
  rcases DataW.trod_slice ht h with ⟨h0, _⟩ | ⟨_, _, _, _, _, _, _, _, h0, _⟩
  · exact h0
  · cases h0

/-- The variable holds, for each of the eight kinds, the slice of its attitudes' words. -/
def AttsLie (w : World) : Prop := ∀ j : Nat, j < 8 → ∃ a, w.cell? ⟨0, j, none⟩ = some (.slice a (attsL ((j : Int) + 1)).length (attsL ((j : Int) + 1)).length) ∧ RdS w a (attsL ((j : Int) + 1)).length (attsL ((j : Int) + 1))
theorem AttsLie.below {w w' : World} (h : AttsLie w) (hb : Below w.heap.size w w') : AttsLie w' := fun j hj => by
  obtain ⟨a, h1, h2⟩ := h j hj
  exact ⟨a, (hb.cell (p := ⟨0, j, none⟩) (World.block_lt_of_cell? w _ h1)).trans h1, h2.below hb⟩
theorem atts_of {rest : List (String × DataW Unit)} {w : World} (h : laidMet Tryd.prog (("loop.example/g00884/impl.attitudeWords", Rows.laid_loop_example_g00884_impl_attitudeWords) :: rest) w) : AttsLie w := by
  obtain ⟨ps, ⟨g', t', cs, fuel, p, q, hg', ht', hvar, hd, _, _⟩, _⟩ := h
  have hg : Tryd.prog.globalNamed "loop.example/g00884/impl.attitudeWords" = some 0 := by kernel_rfl
  have ht : (Tryd.prog.globals[0]?).map (·.type) = some 82 := by kernel_rfl
  obtain rfl := Option.some.inj (hg.symm.trans hg')
  obtain rfl := Option.some.inj (ht.symm.trans ht')
  have hc1 : Tryd.prog.cellsOf 81 = 1 := by kernel_rfl
  obtain ⟨xs, m, _, hx, hcl, hxl, hel⟩ := DataW.trod_array (n := 8) (e := 81) Tryd.underlying82 hd
  have hc8 : cs.toList.length = 8 := hcl.trans (by kernel_rfl)
  rw [hc1] at hel
  have hxs : xs.map (·.1) = [.slice [.lit (.string [114, 97, 109, 112, 97, 110, 116]), .lit (.string [112, 97, 115, 115, 97, 110, 116])] [], .slice [.lit (.string [100, 105, 115, 112, 108, 97, 121, 101, 100]), .lit (.string [114, 105, 115, 105, 110, 103])] [], .slice [.lit (.string [115, 119, 105, 109, 109, 105, 110, 103]), .lit (.string [117, 112, 114, 105, 103, 104, 116])] [], .nil, .nil, .nil, .nil, .nil] := by
    have := congrArg Prod.fst hx
    simp only [Rows.laid_loop_example_g00884_impl_attitudeWords, DataW.agg.injEq] at this
    exact this.symm
  have hdat : ∀ j, j < 8 → ∃ d q, (xs.map (·.1))[j]? = some d ∧ DataW.trod (fun _ => ()) Tryd.prog w 0 (fun _ => true) false m 81 ((cs.toList.drop j).take 1) = some (d, q) := by
    intro j hj
    have h1 : j < xs.length := by omega
    refine ⟨xs[j].1, xs[j].2, by simp [h1], ?_⟩
    have := hel j hj
    rw [Nat.mul_one, List.getElem?_eq_getElem h1] at this
    exact this
  intro j hj
  obtain ⟨d, q, h1, h2⟩ := hdat j hj
  rw [hxs] at h1
  have hcell : ∀ v, (cs.toList.drop j).take 1 = [v] → w.cell? ⟨0, j, none⟩ = some v := by
    intro v hv
    rw [World.var?_cell hg hvar j, ← Array.getElem?_toList]
    have := congrArg (·[0]?) hv
    simpa [List.getElem?_take, List.getElem?_drop] using this
  have hyes : ∀ ss : List ByteArray, d = .slice (ss.map fun s => .lit (.string s.data.toList)) [] → attsL ((j : Int) + 1) = ss → ∃ a, w.cell? ⟨0, j, none⟩ = some (.slice a (attsL ((j : Int) + 1)).length (attsL ((j : Int) + 1)).length) ∧ RdS w a (attsL ((j : Int) + 1)).length (attsL ((j : Int) + 1)) := by
    intro ss hd2 hs
    subst hd2
    rw [hs]
    obtain ⟨a, h3, h4⟩ := strs_of_trod Tryd.underlying81 Tryd.underlying9 (by kernel_rfl) h2
    exact ⟨a, hcell _ h3, h4⟩
  have hno : d = .nil → attsL ((j : Int) + 1) = [] → ∃ a, w.cell? ⟨0, j, none⟩ = some (.slice a (attsL ((j : Int) + 1)).length (attsL ((j : Int) + 1)).length) ∧ RdS w a (attsL ((j : Int) + 1)).length (attsL ((j : Int) + 1)) := by
    intro hd2 hs
    subst hd2
    rw [hs]
    exact ⟨none, hcell _ (nil_of_trod Tryd.underlying81 h2), rfl, fun h => absurd h (Nat.lt_irrefl 0)⟩
  rcases (show j = 0 ∨ j = 1 ∨ j = 2 ∨ j = 3 ∨ j = 4 ∨ j = 5 ∨ j = 6 ∨ j = 7 by omega) with rfl | rfl | rfl | rfl | rfl | rfl | rfl | rfl
  · exact hyes [⟨#[114, 97, 109, 112, 97, 110, 116]⟩, ⟨#[112, 97, 115, 115, 97, 110, 116]⟩] (Option.some.inj h1).symm attsL_1
  · exact hyes [⟨#[100, 105, 115, 112, 108, 97, 121, 101, 100]⟩, ⟨#[114, 105, 115, 105, 110, 103]⟩] (Option.some.inj h1).symm attsL_2
  · exact hyes [⟨#[115, 119, 105, 109, 109, 105, 110, 103]⟩, ⟨#[117, 112, 114, 105, 103, 104, 116]⟩] (Option.some.inj h1).symm attsL_3
  all_goals exact hno (Option.some.inj h1).symm (attsL_x (by omega))
theorem attsH {w : World} (h : laidMetH Tryd.prog [("loop.example/g00884/impl.attitudeWords", Rows.laid_loop_example_g00884_impl_attitudeWords)] w) : AttsLie w := by
  rw [MakeChecks.laidMetH_plain _ _ _ (by kernel_rfl)] at h
  exact atts_of h
end Go.Proofs.YtpcghkciibbmgaaDoor
