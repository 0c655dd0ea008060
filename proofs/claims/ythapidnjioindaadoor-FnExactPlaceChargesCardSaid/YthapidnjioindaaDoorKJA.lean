/- Several small texts in one: C10M, C10K, C10S. -/
import Derived.Test.YthapidnjioindaaDoorKIB
import Derived.Test.YthapidnjioindaaDoorKC
import Derived.Deep.RegionHeld3
import Derived.Test.YthapidnjioindaaDoorRows
import Derived.LaidMore
import Derived.Stop.LaidErr
import Derived.MakeChecks
import Derived.Lib.LaidTab
import Derived.Below
import Derived.Test.YthapidnjioindaaDoorKA
import Derived.OpenShut
import Derived.ChangeSlices
namespace Go.Proofs.YthapidnjioindaaDoor
open Go.RowKit

/-- The offsets of a line over one period. -/
def offL (l : Int) : List Int := if l = 1 then [0, 1, 1, 0] else if l = 2 then [0, 1, 1, 0, 0, -1, -1, 0] else if l = 3 then [0, 0, 2, 2] else if l = 4 then [0, 1, 2, 1] else [0]
theorem offL_0 : offL 0 = [0] := by simp [offL]
theorem offL_1 : offL 1 = [0, 1, 1, 0] := by simp [offL]
theorem offL_2 : offL 2 = [0, 1, 1, 0, 0, -1, -1, 0] := by simp [offL]
theorem offL_3 : offL 3 = [0, 0, 2, 2] := by simp [offL]
theorem offL_4 : offL 4 = [0, 1, 2, 1] := by simp [offL]
theorem offL_pos (l : Int) : 0 < (offL l).length := by
  unfold offL
  repeat' split
  all_goals simp
theorem offL_le (l : Int) : (offL l).length ≤ 8 := by
  unfold offL
  repeat' split
  all_goals simp
theorem offL_mem (l : Int) : ∀ z ∈ offL l, -1 ≤ z ∧ z ≤ 2 := by
  unfold offL
  repeat' split
  all_goals decide
/-- The offset of a line at a place. -/
def offZ (l : Int) (t : Nat) : Int := (offL l).getD (t % (offL l).length) 0
theorem offZ_at (l : Int) (t : Nat) : (offL l)[t % (offL l).length]? = some (offZ l t) := by
  have h := Nat.mod_lt t (offL_pos l)
  unfold offZ
  rw [List.getElem?_eq_getElem h]
  simp [List.getD, h]
theorem offZ_in (l : Int) (t : Nat) : -1 ≤ offZ l t ∧ offZ l t ≤ 2 := offL_mem l _ (List.mem_of_getElem? (offZ_at l t))
theorem offZ_zero (t : Nat) : offZ 0 t = 0 := by unfold offZ; rw [offL_0]; simp [Nat.mod_one]
/-- The numbers of the cell (x, y) with a line. -/
def swX (l : Int) (x y : Nat) : Int := (x : Int) - offZ l y
def swY (l : Int) (x y : Nat) : Int := (y : Int) - offZ l x
def swF (l : Int) (x y : Nat) : Int := fallZ x y - 40 * offZ l (x + y)
def swR (l : Int) (x y : Nat) : Int := riseZ x y - 40 * offZ l (19 - x + y)
def swG (l : Int) (x y : Nat) : Int := gableZ x y - 2 * offZ l x
theorem swX_in (l : Int) {x : Nat} (y : Nat) (hx : x < 20) : -2 ≤ swX l x y ∧ swX l x y ≤ 20 := by have := offZ_in l y; unfold swX; omega
theorem swY_in (l : Int) (x : Nat) {y : Nat} (hy : y < 24) : -2 ≤ swY l x y ∧ swY l x y ≤ 24 := by have := offZ_in l x; unfold swY; omega
theorem swF_in (l : Int) {x y : Nat} (hx : x < 20) (hy : y < 24) : -10000 ≤ swF l x y ∧ swF l x y ≤ 10000 := by have := offZ_in l (x + y); unfold swF fallZ; omega
theorem swR_in (l : Int) {x y : Nat} (hx : x < 20) (hy : y < 24) : -10000 ≤ swR l x y ∧ swR l x y ≤ 10000 := by have := offZ_in l (19 - x + y); unfold swR riseZ; omega
theorem gableZ_in {x y : Nat} (hx : x < 20) (hy : y < 24) : -100 ≤ gableZ x y ∧ gableZ x y ≤ 100 := by unfold gableZ absZ; split <;> omega
theorem swG_in (l : Int) {x y : Nat} (hx : x < 20) (hy : y < 24) : -1000 ≤ swG l x y ∧ swG l x y ≤ 1000 := by have := offZ_in l x; have := gableZ_in hx hy; unfold swG; omega
/-- The cell is of the first part of a field with this division and line. -/
def lnFirst (d l : Int) (x y : Nat) : Bool := firstS d (swX l x y) (swY l x y) (swF l x y) (swR l x y)
/-- The cell is of the ordinary with this line. -/
def lnOrd (o l : Int) (x y : Nat) : Bool := ordS o (swX l x y) (swY l x y) (swF l x y) (swR l x y) (swG l x y)
theorem lnFirst_zero (d : Int) {x y : Nat} (hx : x < 20) (hy : y < 24) : lnFirst d 0 x y = firstB d x y := by
  unfold lnFirst swX swY swF swR
  simp only [offZ_zero]
  rw [← firstB_firstS hx hy]
  simp
theorem lnOrd_zero (o : Int) (x y : Nat) : lnOrd o 0 x y = ordB o x y := by
  unfold lnOrd swX swY swF swR swG
  simp only [offZ_zero]
  rw [← ordB_ordS]
  simp
theorem part_bool (f : Bool) (p : Int) (h0 : 0 ≤ p) (h1 : p ≤ 1) : ((if f = true then (0 : Int) else 1) == p) = (f == (p == 0)) := by
  have hp : p = 0 ∨ p = 1 := by omega
  rcases hp with rfl | rfl <;> cases f <;> simp
/-- The places from 1 to k at which the offset differs from the one before. -/
def turnZ (l : Int) : Nat → Nat
  | 0 => 0
  | k + 1 => turnZ l k + if offZ l (k + 1) = offZ l k then 0 else 1
theorem turnZ_le (l : Int) : ∀ k, turnZ l k ≤ k
  | 0 => by simp [turnZ]
  | k + 1 => by
    have := turnZ_le l k
    unfold turnZ
    split <;> omega
end Go.Proofs.YthapidnjioindaaDoor
namespace Go.Proofs.YthapidnjioindaaDoor
open Go.RowKit

theorem l10Offsets_any (l : Int) (w : World) (h0 : 0 ≤ l) (h1 : l ≤ 4) :
    Calls Tryd.prog 137 #[.int .i64 l] w (AnsL w (offL l)) := by
  have hl : l = 0 ∨ l = 1 ∨ l = 2 ∨ l = 3 ∨ l = 4 := by omega
  rcases hl with rfl | rfl | rfl | rfl | rfl
  · rw [offL_0]
    go_enter Tryd.func137, Tryd.ntmps137
    go_wp2_with fail
    go_ret
    exact ansL_lit w [0] (by decide)
  · rw [offL_1]
    go_enter Tryd.func137, Tryd.ntmps137
    go_wp2_with fail
    go_ret
    exact ansL_lit w [0, 1, 1, 0] (by decide)
  · rw [offL_2]
    go_enter Tryd.func137, Tryd.ntmps137
    go_wp2_with fail
    go_ret
    exact ansL_lit w [0, 1, 1, 0, 0, -1, -1, 0] (by decide)
  · rw [offL_3]
    go_enter Tryd.func137, Tryd.ntmps137
    go_wp2_with fail
    go_ret
    exact ansL_lit w [0, 0, 2, 2] (by decide)
  · rw [offL_4]
    go_enter Tryd.func137, Tryd.ntmps137
    go_wp2_with fail
    go_ret
    exact ansL_lit w [0, 1, 2, 1] (by decide)
theorem l10Offset_any (l : Int) (t : Nat) (w : World) (h0 : 0 ≤ l) (h1 : l ≤ 4) (ht : t ≤ 100000) :
    Calls Tryd.prog 124 #[.int .i64 l, .int .i64 (t : Int)] w fun e w' => e = .returned (.int .i64 (offZ l t)) ∧ Below w.heap.size w w' := by
  have C := Lib.hid (fun W => l10Offsets_any l W h0 h1)
  have hat := offZ_at l t
  have hp := offL_pos l
  have hle := offL_le l
  unfold AnsL at C
  obtain ⟨X, hX⟩ : ∃ X, offL l = X := ⟨_, rfl⟩
  obtain ⟨z, hz⟩ : ∃ z, offZ l t = z := ⟨_, rfl⟩
  rw [hz] at hat ⊢
  rw [hX] at C hat hp hle
  obtain ⟨N, hN⟩ : ∃ N, X.length = N := ⟨_, rfl⟩
  rw [hN] at C hat hp hle
  have HL := Lib.hid hN
  clear hX hz hN h0 h1
  go_enter Tryd.func124, Tryd.ntmps124
  go_wp2_with fail
  refine (C.out _).mono ?_
  rintro e w1 ⟨a, c, rfl, ho, hb⟩
  have hm : t % N < N := Nat.mod_lt t hp
  obtain ⟨b, o, rfl, hlt, hc⟩ := ho.rd.2 hp
  have hc1 := rdI_at hc hm hat
  have em : ((t : Int)).tmod (N : Int) = ((t % N : Nat) : Int) := by rw [Int.tmod_eq_emod_of_nonneg (by omega)]; omega
  have HB := Lib.hid hb
  clear hc ho hb hlt hat C HL
  go_wp2_with fail
  go_ret
  exact ⟨rfl, HB.out⟩
/-- The numbers l and t are a line and a place of it. -/
def okOff (l t : Int) : Bool := decide (0 ≤ l ∧ l ≤ 4) && decide (0 ≤ t ∧ t ≤ 1000)
/-- The numbers l and n are a line and a number of places. -/
def okTurn (l n : Int) : Bool := decide (0 ≤ l ∧ l ≤ 4) && decide (1 ≤ n ∧ n ≤ 1000)
end Go.Proofs.YthapidnjioindaaDoor
namespace Go.Proofs.YthapidnjioindaaDoor
open Go.RowKit

theorem addr_addK (b o i : Nat) : (⟨b, o, none⟩ : Addr).add i = ⟨b, o + i, none⟩ := by unfold Addr.add; split <;> simp_all
theorem ints_of_trodK {H : Type} {enc : TypeId × Value → H} {P : Program} {w : World} {base : Nat} {held : Bool} {fuel : Nat} {t e : TypeId} {cs : List Value} {zs : List Int} {p : List MemPlace}
    (ht : P.underlying t = some (.slice e)) (he : P.underlying e = some (.int .i64)) (hc : P.cellsOf e = 1)
    (h : DataW.trod enc P w base (fun _ => true) held fuel t cs = some (.slice (zs.map fun z => .lit (.int .i64 z)) [], p)) :
    ∃ a, cs = [.slice a zs.length zs.length] ∧ RdI w a zs.length zs := by
  rcases ChangeShapes.open_ints ht he hc h with ⟨_, h0⟩ | ⟨⟨b, o, spot⟩, len, cap, ys, rfl, _, hl, _, hm, hx, hS, _⟩
  · cases h0
  · simp only [if_true] at hm
    simp only [Prod.mk.injEq, DataW.slice.injEq] at hx
    obtain ⟨⟨h1, h2⟩, _⟩ := hx
    have hlen : zs.length = min len ys.length := by have := congrArg List.length h1; simpa [ChangeShapes.lits] using this
    have hrest : ys.length - len = 0 := by have := congrArg List.length h2; simpa [ChangeShapes.lits, eq_comm] using this
    have hy : zs = ys := by
      have h3 : ys.take len = ys := List.take_of_length_le (by omega)
      rw [h3] at h1
      have hinj : ∀ x y : Int, (DataW.lit (.int .i64 x) : DataW H) = .lit (.int .i64 y) → x = y := by intro x y h; cases h; rfl
      apply List.ext_getElem?
      intro i
      have h4 := congrArg (·[i]?) h1
      simp only [ChangeShapes.lits, List.getElem?_map] at h4
      cases hz : zs[i]? <;> cases hy : ys[i]? <;> simp_all
    subst hy
    have hcl : cap = len := by omega
    have hzl : zs.length = len := by omega
    refine ⟨some ⟨b, o, spot⟩, by rw [hcl, hzl], rfl, fun hn => ?_⟩
    have h0 := hS 0 (by omega)
    have hspot : spot = none := by simpa [Addr.add] using World.cell?_spot h0
    subst hspot
    have hall : ∀ i, i < zs.length → w.cell? ⟨b, o + i, none⟩ = some (.int .i64 (zs.getD i 0)) := by
      intro i hi
      have h3 := hS i hi
      have e1 := addr_addK b o i
      rwa [e1] at h3
    exact ⟨b, o, rfl, World.block_lt_of_cell? w _ (hall 0 hn), hall⟩
/-- The variable holds, for each of the five lines, the slice of its offsets. -/
def OffsLie (w : World) : Prop := ∀ j : Nat, j < 5 → ∃ a, w.cell? ⟨3, j, none⟩ = some (.slice a (offL (j : Int)).length (offL (j : Int)).length) ∧ RdI w a (offL (j : Int)).length (offL (j : Int))
theorem OffsLie.below {w w' : World} (h : OffsLie w) (hb : Below w.heap.size w w') : OffsLie w' := fun j hj => by
  obtain ⟨a, h1, h2⟩ := h j hj
  exact ⟨a, (hb.cell (p := ⟨3, j, none⟩) (World.block_lt_of_cell? w _ h1)).trans h1, h2.below hb⟩
theorem OffsLie.drewN {w : World} (h : OffsLie w) (m : Nat) : OffsLie (w.drewN m) := fun j hj => by
  obtain ⟨a, h1, h2⟩ := h j hj
  exact ⟨a, h1, h2.drewN m⟩
theorem offs_of {rest : List (String × DataW Unit)} {w : World} (h : laidMet Tryd.prog (("loop.example/g00884/impl.lineOffsets", Rows.laid_loop_example_g00884_impl_lineOffsets) :: rest) w) : OffsLie w := by
  obtain ⟨ps, ⟨g', t', cs, fuel, p, q, hg', ht', hvar, hd, _, _⟩, _⟩ := h
  have hg : Tryd.prog.globalNamed "loop.example/g00884/impl.lineOffsets" = some 3 := by kernel_rfl
  have ht : (Tryd.prog.globals[3]?).map (·.type) = some 132 := by kernel_rfl
  obtain rfl := Option.some.inj (hg.symm.trans hg')
  obtain rfl := Option.some.inj (ht.symm.trans ht')
  have hc1 : Tryd.prog.cellsOf 24 = 1 := by kernel_rfl
  obtain ⟨xs, m, _, hx, hcl, hxl, hel⟩ := DataW.trod_array (n := 5) (e := 24) Tryd.underlying132 hd
  rw [hc1] at hel
  have hxs : xs.map (·.1) = [0, 1, 2, 3, 4].map (fun l : Int => .slice ((offL l).map fun z => .lit (.int .i64 z)) []) := by
    have := congrArg Prod.fst hx
    simp only [Rows.laid_loop_example_g00884_impl_lineOffsets, DataW.agg.injEq] at this
    simp only [List.map_cons, List.map_nil, offL_0, offL_1, offL_2, offL_3, offL_4]
    exact this.symm
  intro j hj
  have h1 : j < xs.length := by omega
  have h2 := hel j hj
  rw [Nat.mul_one, List.getElem?_eq_getElem h1] at h2
  have h3 : (xs.map (·.1))[j]? = some xs[j].1 := by simp [h1]
  rw [hxs] at h3
  have hyes : xs[j].1 = .slice ((offL (j : Int)).map fun z => .lit (.int .i64 z)) [] → ∃ a, w.cell? ⟨3, j, none⟩ = some (.slice a (offL (j : Int)).length (offL (j : Int)).length) ∧ RdI w a (offL (j : Int)).length (offL (j : Int)) := by
    intro hd2
    obtain ⟨a, h4, h5⟩ := ints_of_trodK (p := xs[j].2) Tryd.underlying24 Tryd.underlying3 (by kernel_rfl) (h2.trans (by rw [← hd2]))
    refine ⟨a, ?_, h5⟩
    rw [World.var?_cell hg hvar j, ← Array.getElem?_toList]
    have := congrArg (·[0]?) h4
    simpa [List.getElem?_take, List.getElem?_drop] using this
  rcases (show j = 0 ∨ j = 1 ∨ j = 2 ∨ j = 3 ∨ j = 4 by omega) with rfl | rfl | rfl | rfl | rfl
  all_goals exact hyes (Option.some.inj h3).symm
theorem offsH {w : World} (h : laidMetH Tryd.prog [("loop.example/g00884/impl.lineOffsets", Rows.laid_loop_example_g00884_impl_lineOffsets)] w) : OffsLie w := by
  rw [MakeChecks.laidMetH_plain _ _ _ (by kernel_rfl)] at h
  exact offs_of h
end Go.Proofs.YthapidnjioindaaDoor
